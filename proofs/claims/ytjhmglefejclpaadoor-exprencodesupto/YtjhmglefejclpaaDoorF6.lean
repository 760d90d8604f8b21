/- ExprEncodes' walk. -/
import Derived.Test.YtjhmglefejclpaaDoorF5
import Derived.Test.YtjhmglefejclpaaDoorF4
import Derived.Test.YtjhmglefejclpaaDoorE8
import Derived.Test.YtjhmglefejclpaaDoorE1
import Derived.Test.YtjhmglefejclpaaDoorF1
import Derived.Test.YtjhmglefejclpaaDoorGD
import Derived.Test.YtjhmglefejclpaaDoorGA
import Derived.Deep.RegionHeld3
import Derived.Deep.RegionLaw
import Derived.Deep.Cut

/- ExprEncodes' walk. -/
namespace Go.Proofs.YtjhmglefejclpaaDoor
open Go.RowKit
namespace Ex
set_option linter.unusedVariables false
set_option linter.unusedSimpArgs false

theorem mayB_eq (l : List Ins) : (decide (cnt l ≤ 16384) && may 0 l) = mayB l := by
  rw [Bool.eq_iff_iff, Bool.and_eq_true, decide_eq_true_eq]
  exact ⟨fun h => mayB_of h.1 h.2, fun h => mayB_parts h⟩
theorem Bu.rowAt {w : World} {B n c : Nat} {a : Option Addr} {xs : List Int} (h : Bu w B (.slice a n c) xs) : Row w a n xs := by
  obtain ⟨a', n', c', e, hr, _⟩ := h.row
  cases e
  exact hr
theorem Bu.base {w : World} {B B' : Nat} {v : Value} {xs : List Int} (h : Bu w B v xs) (hB : B' ≤ B) : Bu w B' v xs := by
  refine ⟨⟨h.own.1, ?_⟩, h.by_⟩
  rcases h.own.2 with h1 | ⟨g, cap, cur, h1, h2, h3⟩
  · exact .inl h1
  · exact .inr ⟨g, cap, cur, h1, Nat.le_trans hB h2, h3⟩
theorem step_layg {ops : Array Oper} {o : Oper} {a : Act} {K : Act → World → Prop} {Q : Exit → Act → World → Prop} {E : Prop} (w : World) (hw : Region.wanted o (yielded ops a.tmps) = true) (s x : Operand)
    (ho : o.op = .call { callee := .builtin .append, args := #[s, x], argTypes := #[27, 27] })
    (B : Nat) (v : Value) (xs : List Int) (hs : a.eval s = v) (hown : Bu w B v xs)
    (ao : Option Addr) (m c : Nat) (zs : List Int) (hx : a.eval x = .slice ao m c) (hrow : Row w ao m zs) (hnil : ao = none → c = 0) (hb : xs.length + m ≤ 1099511627776) (hB : B ≤ w.heap.size)
    (h : ∀ a' n' c' w', Bu w' B (.slice a' n' c') (xs ++ zs) → Below B w w' → Kt w w' → K (a.put o.dst (.slice a' n' c')) w') :
    if Region.wanted o (yielded ops a.tmps) = true then Oper.wp Tryd.prog o a w K Q else E := by
  rw [if_pos hw]
  obtain ⟨a', n', c', w', hrun, h1, h2, h3⟩ := app_run w o.type B v xs hown ao m c zs hrow hnil hb hB
  unfold Oper.wp
  simp [execOp, ho, resolve, invoke, builtin, hs, hx, hrun, Result.andThen]
  exact h a' n' c' w' h1 h2 h3
set_option maxRecDepth 100000 in
set_option maxHeartbeats 6400000 in
theorem eenc_any {v : Value} {l : List Ins} {w : World} (hv : Code w (fun _ => True) l v) (hw : Wf l) (hwt : wt l ≤ 1048576) (hE : ErrT w) (hT : Tb w) :
    Calls Tryd.prog 3 #[v] w fun e w' => e = .returned (.bool true) ∧ Below w.heap.size w w' := by
  have hll : l.length ≤ 1099511627776 := by have := wt_len l; omega
  have hsz : Sz 1099511627776 l := Sz_wt l (by omega)
  have hcn : cnt l ≤ 1099511627776 := by have := cnt_wt l; omega
  have hlg := large_any l _ v w hv hll hsz
  have hsu := fun wx (hb : Below w.heap.size w wx) => sure_any wx (hT.below hb) (hE.below (Nat.le_refl _) hb)
  have hgv := fun wx (hb : Below w.heap.size w wx) => give_any l (· < wx.heap.size) v wx (fun k h => h) ((hv.below hb).any (fun k hk _ => hk)) hll hsz
  have hrc := fun wx (hb : Below w.heap.size w wx) => rc_any l _ v wx (hv.below hb) hcn
  have hmr := fun wx (hb : Below w.heap.size w wx) => mayr_any l _ v wx (hv.below hb) hcn hll hsz hw formH
  rw [mayB_eq] at hmr
  have hly := fun (hm : mayB l = true) wx (hb : Below w.heap.size w wx) => lay_any formH l _ v 0 wx (hv.below hb) (mayB_parts hm).2 hw (by have := enc_le l 0 (mayB_parts hm).2; have := (mayB_parts hm).1; omega) hll hsz
  have hen := fun (u : Value) (wx : World) (hc : Code wx (fun _ => True) l u) (hT : Tb wx) => encode_any l hc hT hll hsz hw
  have hck := fun (u : Value) (wx : World) (hc : Code wx (fun _ => True) l u) (hT : Tb wx) => check_any l hc hT hll hsz hw
  have hct := fun (u : Value) (wx : World) (hc : Code wx (fun _ => True) l u) => count_any l _ u wx hc hcn
  have hsc := fun (u : Value) (wx : World) (hc : Code wx (fun _ => True) l u) (hb : Below w.heap.size w wx) => sc_any l l _ _ u v wx hc (hv.below hb) hll hsz hll hsz
  have hsm := fun (u u2 : Value) (wx : World) (hc : Code wx (fun _ => True) l u) (hc2 : Code wx (fun _ => True) l u2) => same_any l l _ _ u u2 wx hc hc2 hll hsz hll hsz
  rw [same_refl] at hsc hsm
  have hel := fun (hm : mayB l = true) => enc_le l 0 (mayB_parts hm).2
  have HLg := hide hlg; have HSu := hide hsu; have HGv := hide hgv; have HRc := hide hrc; have HMr := hide hmr; have HLy := hide hly; have HEn := hide hen; have HCk := hide hck; have HCt := hide hct; have HSc := hide hsc; have HSm := hide hsm
  have HE := hide hE; have HT := hide hT; have HEl := hide (fun hm => And.intro (hel hm) (mayB_parts hm).1)
  obtain ⟨va, vc, rfl, _⟩ := hv
  clear hlg hsu hgv hrc hmr hly hen hck hct hsc hsm hel hE hT hll hsz hcn hw hwt
  generalize hln : l.length = ln at *
  have HLn := hide hln; clear hln
  have hcq : (((cnt l : Nat) : Int) != ((cnt l : Nat) : Int)) = false := by simp
  generalize ((cnt l : Nat) : Int) = K at *
  go_enter Tryd.func3, Tryd.ntmps3
  go_wp2_with fail
  refine (unhide HLg).mono ?_
  rintro e w1 ⟨b, rfl, hb1⟩
  have HB1 := hide hb1; clear hb1 HLg
  cases b with
  | true =>
    go_wp2_with fail
    refine (unhide HSu _ (unhide HB1)).mono ?_
    rintro e w9 ⟨rfl, hb9⟩
    have HB9 := hide (Below.on (unhide HB1) hb9); clear hb9
    go_wp2
    go_ret
    exact ⟨rfl, unhide HB9⟩
  | false =>
    go_wp2_with fail
    refine (unhide HGv _ (unhide HB1)).mono ?_
    rintro e w2 ⟨v2, rfl, hb2, hown⟩
    have HC2 := hide (show Code w2 (fun _ => True) l v2 from hown.code fun _ _ _ => trivial)
    have HB2 := hide (Below.on (unhide HB1) hb2)
    obtain ⟨oa, oc, rfl, _⟩ := hown.shape
    rw [unhide HLn] at HC2 ⊢
    clear hb2 hown
    go_wp2_with fail
    refine (unhide HEn _ _ (unhide HC2) ((unhide HT).below (unhide HB2))).mono ?_
    rintro e w3 ⟨ca, cl, cc, rfl, hb3, hy, hn⟩
    have HB3 := hide (Below.on (unhide HB2) hb3); have HC3 := hide ((unhide HC2).below hb3)
    have HY := hide hy; have HNo := hide hn
    clear hb3 hy hn
    generalize hev : errV (if mayB l = true then 0 else 1) = ev at *
    have HEv := hide hev; clear hev
    go_wp2_with fail
    refine (unhide HCt _ _ (unhide HC3)).mono ?_
    rintro e w4 ⟨rfl, hb4⟩
    have HB34 := hide hb4
    have HB4 := hide (Below.on (unhide HB3) hb4); have HC4 := hide ((unhide HC3).below hb4)
    clear hb4
    go_wp2_with fail
    refine (unhide HRc _ (unhide HB4)).mono ?_
    rintro e w5 ⟨rfl, hb5⟩
    have HB35 := hide (Below.on (unhide HB34) hb5)
    have HB5 := hide (Below.on (unhide HB4) hb5); have HC5 := hide ((unhide HC4).below hb5)
    clear hb5
    go_wp2_with fail
    refine (unhide HSc _ _ (unhide HC5) (unhide HB5)).mono ?_
    rintro e w6 ⟨rfl, hb6⟩
    have HB36 := hide (Below.on (unhide HB35) hb6)
    have HB6 := hide (Below.on (unhide HB5) hb6); have HC6 := hide ((unhide HC5).below hb6)
    clear hb6
    go_wp2_with fail
    refine (unhide HGv _ (unhide HB6)).mono ?_
    rintro e w7 ⟨v7, rfl, hb7, hown7⟩
    have HC7b := hide (show Code w7 (fun _ => True) l v7 from hown7.code fun _ _ _ => trivial)
    have HB37 := hide (Below.on (unhide HB36) hb7)
    have HB7 := hide (Below.on (unhide HB6) hb7); have HC7 := hide ((unhide HC6).below hb7)
    obtain ⟨ob, od, rfl, _⟩ := hown7.shape
    rw [unhide HLn] at HC7b ⊢
    clear hb7 hown7
    go_wp2_with fail
    refine (unhide HSm _ _ _ (unhide HC7) (unhide HC7b)).mono ?_
    rintro e w8 ⟨rfl, hb8⟩
    have HB38 := hide (Below.on (unhide HB37) hb8)
    have HB8 := hide (Below.on (unhide HB7) hb8); have HC8 := hide ((unhide HC7).below hb8)
    clear hb8
    go_wp2_with fail
    refine (unhide HMr _ (unhide HB8)).mono ?_
    rintro e w9 ⟨rfl, hb9⟩
    have HB39 := hide (Below.on (unhide HB38) hb9)
    have HB9 := hide (Below.on (unhide HB8) hb9); have HC9 := hide ((unhide HC8).below hb9)
    clear hb9
    cases hmb : mayB l with
    | false =>
      rw [hmb] at HEv HY HNo
      rw [if_neg (by decide), errV_1] at HEv
      obtain ⟨rfl, rfl, rfl⟩ := unhide HNo rfl
      obtain rfl := unhide HEv
      have hcK := HCk
      clear hmb HY HNo HEv HCk
      go_wp2_with fail
      refine (num_hit 1 _ ((unhide HE).below (Nat.le_refl _) (unhide HB9))).mono ?_
      rintro e w10 ⟨rfl, hb10⟩
      have HB10 := hide (Below.on (unhide HB9) hb10); have HC10 := hide ((unhide HC9).below hb10)
      clear hb10
      go_wp2_with fail
      refine (unhide hcK _ _ (unhide HC10) ((unhide HT).below (unhide HB10))).mono ?_
      rintro e w11 ⟨rfl, hb11⟩
      have HB11 := hide (Below.on (unhide HB10) hb11)
      clear hb11
      go_wp2_with fail
      refine (num_hit 1 _ ((unhide HE).below (Nat.le_refl _) (unhide HB11))).mono ?_
      rintro e w12 ⟨rfl, hb12⟩
      have HB12 := hide (Below.on (unhide HB11) hb12)
      clear hb12
      go_wp2_with fail
      refine (unhide HSu _ (unhide HB12)).mono ?_
      rintro e w13 ⟨rfl, hb13⟩
      have HB13 := hide (Below.on (unhide HB12) hb13)
      clear hb13
      go_wp2
      go_ret
      exact ⟨rfl, unhide HB13⟩
    | true =>
      rw [hmb] at HEv HY HNo
      rw [if_pos rfl, errV_0] at HEv
      obtain rfl := unhide HEv
      have hBs := unhide HY rfl
      have hly := unhide HLy hmb
      have hel := unhide HEl hmb
      obtain ⟨S, hS⟩ : ∃ S, strOfNums (enc l ++ [11]) = S := ⟨_, rfl⟩
      have HSt := hide hS
      have hR9 : Row w9 ca cl (enc l ++ [11]) := hBs.row.below (Nat.le_refl _) (unhide HB39)
      have HR9 := hide hR9; have HLyy := hide hly; have HEll := hide hel
      have kB := convS (cap := cc) hR9 HSt
      have kB' := convS (cap := cc) (hR9.below (Nat.le_refl _) (Below.refl _ _).drew) HSt
      have hcK := HCk
      clear hmb HY HNo HEv HCk hBs hly hS hel HLy HEl hR9
      go_wp2_with fail
      go_region_law
        (first
          | (refine step_layg _ rfl (.tmp 65) (.tmp 66) rfl w10.heap.size (.slice ya yn yc) (enc l) rfl ((unhide HBu11).below (unhide HA12)) (some ⟨w11.heap.size, 0, none⟩) 1 1 [11] rfl (row_one w11 11 (by omega) (by omega)) (by simp) (by have := unhide HEll; omega) (Nat.le_trans (unhide HZ11) (unhide HA12).size) ?_
             intro a12 n12 c12 w12 hbu12 hbel12 hkt12
             have HB12 := hide (Below.on (unhide HB10) ((unhide HBa).trans hbel12))
             have rL := convS (cap := c12) hbu12.rowAt HSt
             have HR12 := hide ((unhide HR10).below (Nat.le_refl _) ((unhide HBa).trans hbel12))
             have rE := convS (cap := cc) (unhide HR12) HSt
             clear hbu12 hbel12 hkt12)
          | (refine step_layg _ rfl (.tmp 65) (.tmp 66) rfl w10.heap.size (.slice ya yn yc) (enc l) rfl (unhide HBu11) (some ⟨w10.heap.size, 0, none⟩) 1 1 [11] rfl (unhide HRo) (by simp) (by have := unhide HEll; omega) (unhide HBa).size ?_
             intro a12 n12 c12 w12 hbu12 hbel12 hkt12
             have HB12 := hide (Below.on (unhide HB10) ((unhide HBa).trans hbel12))
             have rL := convS (cap := c12) hbu12.rowAt HSt
             have HR12 := hide ((unhide HR10).below (Nat.le_refl _) ((unhide HBa).trans hbel12))
             have rE := convS (cap := cc) (unhide HR12) HSt
             clear hbu12 hbel12 hkt12)
          | (go_simp
             go_at_call 19
             refine (unhide hcK _ _ ((unhide HC9).below (below_drew w9)) ((unhide HT).below (Below.on (unhide HB9) (below_drew w9)))).mono ?_
             rintro e w10 ⟨rfl, hb10⟩
             have HB10 := hide (Below.on (unhide HB9) (Below.on (below_drew w9) hb10))
             have HR10 := hide ((unhide HR9).below (Nat.le_refl _) (Below.on (below_drew w9) hb10))
             have rB := convS (cap := cc) (unhide HR10) HSt
             have HA10 := hide (one_alloc w10 (.cells #[.int .u8 11] 5))
             have rA := convS (cap := cc) ((unhide HR10).below (Nat.le_refl _) (unhide HA10)) HSt
             clear hb10)
          | (go_simp
             go_at_call 20
             refine (unhide HLyy _ (unhide HB10)).mono ?_
             rintro e w11 ⟨v11, rfl, hb11, hbu11⟩
             obtain ⟨ya, yn, yc, rfl, hrow11, hnil11, hn11, hc11⟩ := hbu11.row
             have HBu11 := hide hbu11
             have HR11 := hide ((unhide HR10).below (Nat.le_refl _) hb11)
             have rC := convS (cap := cc) (unhide HR11) HSt
             have HA12 := hide (one_alloc w11 (.cells #[.int .u8 11] 5))
             have HZ11 := hide hb11.size
             have HBa := hide (Below.on hb11 (unhide HA12))
             have rD := convS (cap := cc) ((unhide HR11).below (Nat.le_refl _) (unhide HA12)) HSt
             clear hb11 hbu11 hrow11 hnil11 hn11 hc11)
          | (go_simp
             go_at_call 20
             refine (unhide HLyy _ (Below.on (unhide HB10) (unhide HA10))).mono ?_
             rintro e w11 ⟨v11, rfl, hb11, hbu11⟩
             obtain ⟨ya, yn, yc, rfl, hrow11, hnil11, hn11, hc11⟩ := hbu11.row
             have HBu11 := hide (hbu11.base (unhide HA10).size)
             have HBa := hide (Below.on (unhide HA10) hb11)
             have HR11 := hide ((unhide HR10).below (Nat.le_refl _) (unhide HBa))
             have rC := convS (cap := cc) (unhide HR11) HSt
             have HRo := hide ((row_one w10 11 (by omega) (by omega)).below (Nat.le_refl _) hb11)
             clear hb11 hbu11 hrow11 hnil11 hn11 hc11)
          | (go_simp
             go_at_call 10
             refine (unhide HSu _ (unhide HB12)).mono ?_
             rintro e w13 ⟨rfl, hb13⟩
             have HB13 := hide (Below.on (unhide HB12) hb13)
             clear hb13)
          | fail)
      all_goals
        go_wp2
        go_ret
        exact ⟨rfl, unhide HB13⟩
end Ex
end Go.Proofs.YtjhmglefejclpaaDoor
