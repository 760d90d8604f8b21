/- LDec: what follows, part by part: each part tells what it holds. -/
import Derived.Test.YtjhmglefejclpaaDoorGA
import Derived.Laws.AppendOwnNone
import Derived.Test.YtjhmglefejclpaaDoorE6
import Derived.Test.YtjhmglefejclpaaDoorE1
import Derived.Test.YtjhmglefejclpaaDoorGD
import Derived.Test.YtjhmglefejclpaaDoorGC
import Derived.Test.YtjhmglefejclpaaDoorE7
import Derived.Test.YtjhmglefejclpaaDoorE8
import Derived.Test.YtjhmglefejclpaaDoorRows
import Derived.WalkKit
import Derived.ProofKit
import Derived.OpenShut
import Derived.ShutString
import Derived.ChangeOld
import Derived.Below
import Derived.Test.YtjhmglefejclpaaDoorTie
import Derived.Test.YtjhmglefejclpaaDoorCards

/- append(own, bytes...): bytes of whatever slice, behind those of a row of the call's own. -/
namespace Go.Proofs.YtjhmglefejclpaaDoor
open Go.RowKit
set_option linter.unusedVariables false

theorem wpList_append_row {ops : Array Oper} {rest : List Oper} {o : Oper} {a : Act} {Q : Exit → Act → World → Prop} (w : World) (hgd : o.guard = none) (s x : Operand)
    (ho : o.op = .call { callee := .builtin .append, args := #[s, x], argTypes := #[27, 27] })
    (B : Nat) (v : Value) (n : Nat) (xs : List Int) (hs : a.eval s = v) (hown : w.ownsRow B 5 1 v n (xs.map (Value.int .u8)))
    (ao : Option Addr) (m c : Nat) (zs : List Int) (hx : a.eval x = .slice ao m c) (hrow : Row w ao m zs) (hnil : ao = none → c = 0) (hb : n + m ≤ 100000) (hB : B ≤ w.heap.size)
    (h : ∀ v' w', w'.ownsRow B 5 1 v' (n + m) ((xs ++ zs).map (Value.int .u8)) → Below B w w' → wpList Tryd.prog ops Q rest (a.put o.dst v') w') : wpList Tryd.prog ops Q (o :: rest) a w := by
  obtain ⟨i0, hi, hz0, hz1, hz2⟩ := info_parts Tryd.info5
  cases ao with
  | none =>
    have hm : m = 0 := by
      rcases Nat.eq_zero_or_pos m with h1 | h1
      · exact h1
      · obtain ⟨b, off, hc, _⟩ := hrow.2.2 h1; simp at hc
    subst hm
    have hzs : zs = [] := List.eq_nil_of_length_eq_zero hrow.1
    subst hzs
    have hc0 := hnil rfl
    subst hc0
    refine wpList_append_own_none hgd s x 27 ho B 5 i0 1 Tryd.underlying27 hi v n (xs.map (Value.int .u8)) hs hown hx ?_
    exact h v w (by simpa using hown) (Below.refl _ _)
  | some ad =>
    refine wpList_append_own w hgd s x 27 ho B 5 i0 (.int .u8 0) 1 1 Tryd.underlying27 hi hz0 hz1 hz2 rfl (by decide) v n (xs.map (Value.int .u8)) hs hown ad m c (zs.map (Value.int .u8)) hx (by simp [hrow.1]) ?_ (ints_oneCell _ _) (by unfold maxLen; omega) (by omega) hB ?_
    · intro j u hj
      simp at hj
      obtain ⟨z, hz, rfl⟩ := hj
      have hj2 : j < m := by have := (List.getElem?_eq_some_iff.1 hz).1; have := hrow.1; omega
      obtain ⟨b, off, he, _, hcell⟩ := hrow.2.2 (by omega)
      simp at he; subst he
      rw [addr_add, hcell j hj2]; simp [List.getD, hz]
    · intro v' w' hown' hgrow _
      exact h v' w' (by simpa using hown') ((Below.refl B w).grown hgrow hB (fun k hk => (hown.lt k hk).1))
end Go.Proofs.YtjhmglefejclpaaDoor

/- ExprBack's walk. -/
namespace Go.Proofs.YtjhmglefejclpaaDoor
open Go.RowKit
namespace Ex
set_option linter.unusedVariables false
set_option linter.unusedSimpArgs false

theorem wpList_append_far {ops : Array Oper} {rest : List Oper} {o : Oper} {a : Act} {Q : Exit → Act → World → Prop} (w : World) (hgd : o.guard = none) (s x : Operand)
    (ho : o.op = .call { callee := .builtin .append, args := #[s, x], argTypes := #[27, 27] })
    (B : Nat) (v : Value) (n : Nat) (xs : List Int) (hs : a.eval s = v) (hown : w.ownsRow B 5 1 v n (xs.map (Value.int .u8)))
    (ao : Option Addr) (m c : Nat) (zs : List Int) (hx : a.eval x = .slice ao m c) (hrow : Row w ao m zs) (hnil : ao = none → c = 0) (hb : n + m ≤ 1099511627776) (hB : B ≤ w.heap.size)
    (h : ∀ v' w', w'.ownsRow B 5 1 v' (n + m) ((xs ++ zs).map (Value.int .u8)) → Below B w w' → wpList Tryd.prog ops Q rest (a.put o.dst v') w') : wpList Tryd.prog ops Q (o :: rest) a w := by
  obtain ⟨i0, hi, hz0, hz1, hz2⟩ := info_parts Tryd.info5
  cases ao with
  | none =>
    have hm : m = 0 := by
      rcases Nat.eq_zero_or_pos m with h1 | h1
      · exact h1
      · obtain ⟨b, off, hc, _⟩ := hrow.2.2 h1; simp at hc
    subst hm
    have hzs : zs = [] := List.eq_nil_of_length_eq_zero hrow.1
    subst hzs
    have hc0 := hnil rfl
    subst hc0
    refine wpList_append_own_none hgd s x 27 ho B 5 i0 1 Tryd.underlying27 hi v n (xs.map (Value.int .u8)) hs hown hx ?_
    exact h v w (by simpa using hown) (Below.refl _ _)
  | some ad =>
    refine wpList_append_own w hgd s x 27 ho B 5 i0 (.int .u8 0) 1 1 Tryd.underlying27 hi hz0 hz1 hz2 rfl (by decide) v n (xs.map (Value.int .u8)) hs hown ad m c (zs.map (Value.int .u8)) hx (by simp [hrow.1]) ?_ (ints_oneCell _ _) (by unfold maxLen; omega) (by omega) hB ?_
    · intro j u hj
      simp at hj
      obtain ⟨z, hz, rfl⟩ := hj
      have hj2 : j < m := by have := (List.getElem?_eq_some_iff.1 hz).1; have := hrow.1; omega
      obtain ⟨b, off, he, _, hcell⟩ := hrow.2.2 (by omega)
      simp at he; subst he
      rw [addr_add, hcell j hj2]; simp [List.getD, hz]
    · intro v' w' hown' hgrow _
      exact h v' w' (by simpa using hown') ((Below.refl B w).grown hgrow hB (fun k hk => (hown.lt k hk).1))
theorem mayI_ls {d : Nat} {i : Ins} (h : mayI d i = true) : i.ls.length ≤ 257 ∧ (blk (fr i.op) = false → i.body = [] ∧ i.els = []) ∧ (blk (fr i.op) = true → may (d + 1) i.body = true ∧ may (d + 1) i.els = true) := by
  unfold mayI one at h
  simp only [Bool.and_eq_true] at h
  obtain ⟨⟨⟨_, hb⟩, ha⟩, hr⟩ := h
  unfold alo at ha
  have ha := of_decide_eq_true ha
  obtain ⟨_, _, a3, a4, a5⟩ := ha
  refine ⟨?_, fun hk => ?_, fun hk => ?_⟩
  · rcases a5 with h8 | h8
    · unfold bnd at hb
      rw [h8] at hb
      simp at hb
      omega
    · omega
  · have hk := of_decide_eq_false hk
    refine ⟨List.eq_nil_of_length_eq_zero ?_, List.eq_nil_of_length_eq_zero ?_⟩
    · rcases a3 with h | h | h
      · exact absurd (.inl h) hk
      · exact absurd (.inr h) hk
      · exact h.2
    · rcases a4 with h | h
      · exact absurd (.inr h) hk
      · exact h
  · rw [hk] at hr
    simp at hr
    exact ⟨hr.1.2, hr.2⟩
theorem Sz_may (l : List Ins) : ∀ d, may d l = true → cnt l ≤ 16384 → Sz 1099511627776 l := by
  refine ind2 (P := fun l => ∀ d, may d l = true → cnt l ≤ 16384 → Sz 1099511627776 l) (fun l ih d hm hc => ?_) l
  refine Sz_of fun i hi => ?_
  obtain ⟨q1, q2, q3⟩ := mayI_ls (may_get hm i hi)
  have hs := cnt_sub hi
  have h1 := cnt_len i.body
  have h2 := cnt_len i.els
  refine ⟨by omega, by omega, by omega, ?_, ?_⟩
  · cases hk : blk (fr i.op) with
    | true => exact (ih i hi).1 (d + 1) (q3 hk).1 (by omega)
    | false => rw [(q2 hk).1]; exact Sz_nil _
  · cases hk : blk (fr i.op) with
    | true => exact (ih i hi).2 (d + 1) (q3 hk).2 (by omega)
    | false => rw [(q2 hk).2]; exact Sz_nil _
/-- what is read may be encoded -/
theorem D_may {zs : List Int} (hz : ∀ z ∈ zs, 0 ≤ z ∧ z ≤ 255) (h : (D zs 0 0 0 false).e = 0) : Wf (D zs 0 0 0 false).v.1 ∧ mayB (D zs 0 0 0 false).v.1 = true ∧ (D zs 0 0 0 false).v.1.length ≤ 1099511627776 ∧ Sz 1099511627776 (D zs 0 0 0 false).v.1 ∧ (enc (D zs 0 0 0 false).v.1).length + 1 ≤ (D zs 0 0 0 false).at_ := by
  obtain ⟨g1, g2, g3, g4, g5, _⟩ := dec_good hz (zs.length + 1) 0 0 0 false (by omega) (by omega) h
  have hc : cnt (D zs 0 0 0 false).v.1 ≤ 16384 := by unfold D; omega
  have hl := cnt_len (D zs 0 0 0 false).v.1
  exact ⟨g1, mayB_of hc g2, by omega, Sz_may _ 0 g2 hc, by unfold D; omega⟩
end Ex
end Go.Proofs.YtjhmglefejclpaaDoor

/- The document's Decode; ExprDecodes' walk. -/
namespace Go.Proofs.YtjhmglefejclpaaDoor
open Go.RowKit
namespace Ex
set_option linter.unusedVariables false
set_option linter.unusedSimpArgs false

def RdP (w : World) (R : Out (List Ins × Int)) (e : Ending) (w' : World) : Prop :=
  ∃ v, e = .returned (.tuple #[v, .int .i64 R.at_, .int .i64 R.e]) ∧ IsSl v ∧ Below w.heap.size w w' ∧ (R.e = 0 → Code w' (w.heap.size ≤ ·) R.v.1 v) ∧ (¬ R.e = 0 → v = .slice none 0 0)
set_option maxRecDepth 100000 in
set_option maxHeartbeats 1600000 in
theorem rdecode_any {a : Option Addr} {len cap : Nat} {zs : List Int} {w : World} (hrow : Row w a len zs) (hl : len ≤ 3000) (hc : len ≤ cap) :
    Calls Tryd.prog 22 #[.slice a len cap] w (RdP w (D zs 0 0 0 false)) := by
  have hL := listr_any (len + 1) a len cap 0 0 0 false zs w hrow hl (by omega) hc (by omega) (by omega) (by omega)
  generalize D zs 0 0 0 false = R at *
  have HL := hide hL
  clear hL hrow
  go_enter Tryd.func22, Tryd.ntmps22
  go_wp2_with fail
  refine (unhide HL).mono ?_
  rintro e w1 ⟨k', v, c, rfl, ⟨va, vl, vc, rfl⟩, hb1, hok⟩
  have HOk := hide hok; have HB1 := hide hb1
  have HAl := hide (one_alloc w1 (.cells #[.slice a len cap, .int .i64 R.at_, .int .i64 k', .int .i64 R.e] 80))
  clear hok hb1
  go_upto_region 2 with fail
  generalize hw2 : w1.alloc (.cells #[.slice a len cap, .int .i64 R.at_, .int .i64 k', .int .i64 R.e] 80) = w2 at *
  have e1 : w2.cell? ⟨w1.heap.size, 1, none⟩ = some (.int .i64 R.at_) := by rw [← hw2]; simp
  have e3 : w2.cell? ⟨w1.heap.size, 3, none⟩ = some (.int .i64 R.e) := by rw [← hw2]; simp
  clear hw2
  have HB2 := hide (Below.on (unhide HB1) (unhide HAl))
  have HC2 := hide (fun (h : R.e = 0) => ((unhide HOk h).2.2.below (unhide HAl)))
  generalize w1.heap.size = M at *
  by_cases he : R.e = 0
  · rw [he] at e3
    have HE := hide he
    clear he
    go_wp2_with fail
    go_quiet (fail)
    go_wp2
    go_ret3
    refine ⟨.slice va vl vc, ?_, ⟨_, _, _, rfl⟩, Below.on (unhide HB2) (Below.drewn _ _), fun _ => ?_, fun e => absurd (unhide HE) e⟩
    · rw [unhide HE]; rfl
    · exact (unhide HC2 (unhide HE)).below (Below.drewn _ _)
  · have t : (R.e != 0) = true := by simpa using he
    have HE := hide he
    clear he
    go_wp2_with fail
    go_quiet (fail)
    go_wp2
    go_ret3
    exact ⟨.slice none 0 0, rfl, ⟨_, _, _, rfl⟩, Below.on (unhide HB2) (Below.drewn _ _), fun e => absurd e (unhide HE), fun _ => rfl⟩

set_option maxRecDepth 100000 in
set_option maxHeartbeats 3200000 in
theorem edec_any {a : Option Addr} {len cap : Nat} {zs : List Int} {w : World} (hrow : Row w a len zs) (hc : len ≤ cap) (hn : a = none → cap = 0) (hE : ErrT w) (hT : Tb w) :
    Calls Tryd.prog 4 #[.slice a len cap] w fun e w' => e = .returned (.bool true) ∧ Below w.heap.size w w' := by
  have hsu := fun wx (hb : Below w.heap.size w wx) => sure_any wx (hT.below hb) (hE.below (Nat.le_refl _) hb)
  have HSu := hide hsu
  clear hsu
  by_cases hlen : len ≤ 3000
  · have hlz : ¬ ((3000 : Int) < (len : Int)) := by omega
    have hd := decode_any (a := a) (cap := cap) (w := w) ⟨hrow, hn, hc, by omega⟩ hT
    have hr := fun wx (hb : Below w.heap.size w wx) => rdecode_any (cap := cap) (hrow.below (Nat.le_refl _) hb) hlen hc
    have hg := dec_good hrow.2.1 (zs.length + 1) 0 0 0 false (by omega) (by omega)
    have hg' : GoodL 0 0 0 false (D zs 0 0 0 false) := hg
    generalize D zs 0 0 0 false = R at *
    have hnm := fun wx (hb : Below w.heap.size w wx) => num_any R.e wx (hE.below (Nat.le_refl _) hb)
    have HD := hide hd; have HR := hide hr; have HG := hide hg'; have HNm := hide hnm
    clear hd hr hg hg' hnm hrow hE hT hlen
    have hbq : ((R.at_ : Int) == (R.at_ : Int)) = true := by simp
    have hbe : ((R.e : Int) == (R.e : Int)) = true := by simp
    go_enter Tryd.func4, Tryd.ntmps4
    go_wp2_with fail
    refine (unhide HD).mono ?_
    rintro e w1 ⟨v1, rfl, hv1, hb1, ok1, no1⟩
    obtain ⟨a1, n1, k1, rfl⟩ := hv1
    have HB1 := hide hb1; have HO1 := hide ok1; have HN1 := hide no1
    clear hb1 ok1 no1
    generalize hev : errV R.e = ev at *
    go_wp2_with fail
    refine (unhide HR _ (unhide HB1)).mono ?_
    rintro e w2 ⟨v2, rfl, hv2, hb2, ok2, no2⟩
    obtain ⟨a2, n2, k2, rfl⟩ := hv2
    have HB2 := hide (Below.on (unhide HB1) hb2)
    have hsc : ∀ wx, Below w2.heap.size w2 wx → Calls Tryd.prog 15 #[.slice a1 n1 k1, .slice a2 n2 k2] wx fun e w' => e = .returned (.bool true) ∧ Below wx.heap.size wx w' := by
      intro wx hbx
      by_cases he : R.e = 0
      · have g := unhide HG he
        have hcn := cnt_len R.v.1
        have hsz := Sz_may R.v.1 0 g.2.1 (by omega)
        have h := sc_any R.v.1 R.v.1 _ _ _ _ wx (((unhide HO1 he).below hb2).below hbx) ((ok2 he).below hbx) (by omega) hsz (by omega) hsz
        rw [same_refl] at h
        exact h
      · have e1 := unhide HN1 he
        have e2 := no2 he
        rw [e1, e2]
        have h := sc_any [] [] (fun _ => True) (fun _ => True) (.slice none 0 0) (.slice none 0 0) wx (Code_nil _ _) (Code_nil _ _) (by simp) (Sz_nil _) (by simp) (Sz_nil _)
        rw [same_nil] at h
        exact h
    have HSc := hide hsc
    clear hsc ok2 no2 hb2
    go_wp2_with fail
    refine (unhide HSc _ (Below.refl _ _)).mono ?_
    rintro e w3 ⟨rfl, hb3⟩
    have HB3 := hide (Below.on (unhide HB2) hb3)
    clear hb3
    go_wp2_with fail
    refine (unhide HNm _ (unhide HB3)).mono ?_
    rintro e w4 ⟨rfl, hb4⟩
    have HB4 := hide (Below.on (unhide HB3) hb4)
    clear hb4
    go_wp2_with fail
    refine (unhide HSu _ (unhide HB4)).mono ?_
    rintro e w5 ⟨rfl, hb5⟩
    have HB5 := hide (Below.on (unhide HB4) hb5)
    clear hb5
    go_wp2
    go_ret
    exact ⟨rfl, unhide HB5⟩
  · have hlz : (3000 : Int) < (len : Int) := by omega
    clear hrow hE hT hlen
    go_enter Tryd.func4, Tryd.ntmps4
    go_wp2_with fail
    refine (unhide HSu _ (Below.refl _ _)).mono ?_
    rintro e w5 ⟨rfl, hb5⟩
    have HB5 := hide hb5
    clear hb5
    go_wp2
    go_ret
    exact ⟨rfl, unhide HB5⟩
end Ex
end Go.Proofs.YtjhmglefejclpaaDoor

/- ExprDecodes returns true for every slice of bytes, and leaves it: the instructions at the begin of any bytes, or where they are wrong, and how. Of ops' tables and of errors.errorType it takes what the program's text lays (the card ties it). -/
namespace Go.Proofs.YtjhmglefejclpaaDoor.exprDecodes
open Go.ChangeShapes Go.WideShapes Go.ChangeAt Go.RowKit
open Go.ChangeMaps (open_string shut_string)
set_option linter.unusedVariables false

theorem own : ownKnob Tryd.prog.godebug = none := by kernel_rfl
theorem laidOut : laidOutB Tryd.prog = true := by kernel_rfl

def IsRow (k : IntKind) (w : World) (a : Option Addr) (len cap : Nat) (zs : List Int) : Prop :=
  (a = none ∧ len = 0 ∧ cap = 0 ∧ zs = []) ∨
  ∃ x, a = some x ∧ len ≤ cap ∧ cap ≤ maxLen ∧ zs.length = cap ∧ (∀ i, i < zs.length → w.cell? (x.add i) = some (.int k (zs.getD i 0))) ∧ ∀ n ∈ zs, (Lit.int k n).wf = true

theorem row_of {W : World} {a : Option Addr} {len cap : Nat} {zs : List Int} (h : IsRow .u8 W a len cap zs) : Row W a len (zs.take len) ∧ len ≤ cap ∧ (a = none → cap = 0) := by
  rcases h with ⟨rfl, rfl, rfl, rfl⟩ | ⟨x, rfl, hl, hm, hz, hc, hw⟩
  · exact ⟨⟨rfl, by simp, by simp⟩, Nat.le_refl _, fun _ => rfl⟩
  · refine ⟨⟨by simp; omega, fun z hzm => ?_, fun h0 => ?_⟩, hl, fun h => by simp at h⟩
    · have := bounds_u8 (hw z (List.mem_of_mem_take hzm)); omega
    · obtain ⟨b, off, spot⟩ := x
      have h00 := hc 0 (by omega)
      have hspot : spot = none := by simpa [Addr.add] using World.cell?_spot h00
      subst hspot
      have hlt : b < W.heap.size := by
        have h1 : W.cell? ⟨b, off, none⟩ = some (.int .u8 (zs.getD 0 0)) := by simpa [Addr.add] using h00
        exact block_lt_of_cell h1
      refine ⟨b, off, rfl, hlt, fun i hi => ?_⟩
      have := hc i (by omega)
      rw [addr_add] at this
      rw [this]; simp [List.getD, hi]

set_option maxHeartbeats 400000 in
theorem walk (a0 : Option Addr) (len0 cap0 : Nat) (z0 : List Int) (w : World) (hErr : ErrT w) (hTb : Tb w) (w0 : IsRow .u8 w a0 len0 cap0 z0) :
    Calls Tryd.prog 4 #[.slice a0 len0 cap0] w fun e w' => e = .returned (.bool true) ∧ Below w.heap.size w w' := by
  obtain ⟨hr0, hc0, hn0⟩ := row_of w0
  exact Ex.edec_any hr0 hc0 hn0 hErr hTb

theorem laidWorld_met (os : Os) (args : Array Value) : laidMetH Tryd.prog Rows.exprDecodesRow.laid (({ World.holding Tryd.prog os ⟨#[], #[], []⟩ with heap := ((((World.holding Tryd.prog os ⟨#[], #[], []⟩).heap.modify 0 fun | .cells _ t frozen => .cells #[.iface 116 (.agg #[.pointer (some ⟨3, 29, none⟩)])] t frozen | o => o).modify 1 fun | .cells _ t frozen => .cells #[.int .u8 42, .int .u8 43, .int .u8 56, .int .u8 57, .int .u8 67, .int .u8 68, .int .u8 91, .int .u8 102, .int .u8 139, .int .u8 166, .int .u8 168, .int .u8 171, .int .u8 174, .int .u8 191] t frozen | o => o).modify 2 fun | .cells _ t frozen => .cells #[.int .u8 0, .int .u8 1, .int .i64 0, .int .u8 0, .int .u8 0, .int .u8 0, .int .u8 2, .int .u8 3, .int .i64 6, .int .u8 0, .int .u8 0, .int .u8 0, .int .u8 4, .int .u8 4, .int .i64 7, .int .u8 0, .int .u8 0, .int .u8 0, .int .u8 12, .int .u8 13, .int .i64 3, .int .u8 0, .int .u8 0, .int .u8 0, .int .u8 14, .int .u8 14, .int .i64 8, .int .u8 0, .int .u8 0, .int .u8 0, .int .u8 15, .int .u8 15, .int .i64 0, .int .u8 0, .int .u8 0, .int .u8 0, .int .u8 16, .int .u8 16, .int .i64 3, .int .u8 0, .int .u8 0, .int .u8 0, .int .u8 17, .int .u8 17, .int .i64 9, .int .u8 0, .int .u8 0, .int .u8 0, .int .u8 26, .int .u8 27, .int .i64 0, .int .u8 0, .int .u8 0, .int .u8 0, .int .u8 32, .int .u8 36, .int .i64 3, .int .u8 0, .int .u8 0, .int .u8 0, .int .u8 40, .int .u8 40, .int .i64 4, .int .u8 127, .int .u8 0, .int .u8 127, .int .u8 41, .int .u8 41, .int .i64 4, .int .u8 127, .int .u8 0, .int .u8 126, .int .u8 44, .int .u8 47, .int .i64 4, .int .u8 127, .int .u8 0, .int .u8 127, .int .u8 48, .int .u8 53, .int .i64 4, .int .u8 127, .int .u8 0, .int .u8 126, .int .u8 54, .int .u8 54, .int .i64 4, .int .u8 127, .int .u8 127, .int .u8 0, .int .u8 55, .int .u8 55, .int .i64 4, .int .u8 127, .int .u8 126, .int .u8 0, .int .u8 58, .int .u8 59, .int .i64 4, .int .u8 127, .int .u8 127, .int .u8 0, .int .u8 60, .int .u8 62, .int .i64 4, .int .u8 127, .int .u8 126, .int .u8 0, .int .u8 63, .int .u8 63, .int .i64 5, .int .u8 0, .int .u8 0, .int .u8 127, .int .u8 64, .int .u8 64, .int .i64 5, .int .u8 127, .int .u8 0, .int .u8 127, .int .u8 65, .int .u8 65, .int .i64 1, .int .u8 0, .int .u8 0, .int .u8 127, .int .u8 66, .int .u8 66, .int .i64 2, .int .u8 0, .int .u8 0, .int .u8 126, .int .u8 69, .int .u8 69, .int .i64 0, .int .u8 127, .int .u8 0, .int .u8 127, .int .u8 70, .int .u8 79, .int .i64 0, .int .u8 127, .int .u8 127, .int .u8 127, .int .u8 80, .int .u8 80, .int .i64 0, .int .u8 126, .int .u8 0, .int .u8 127, .int .u8 81, .int .u8 90, .int .i64 0, .int .u8 126, .int .u8 126, .int .u8 127, .int .u8 103, .int .u8 105, .int .i64 0, .int .u8 127, .int .u8 0, .int .u8 127, .int .u8 106, .int .u8 120, .int .i64 0, .int .u8 127, .int .u8 127, .int .u8 127, .int .u8 121, .int .u8 123, .int .i64 0, .int .u8 126, .int .u8 0, .int .u8 126, .int .u8 124, .int .u8 138, .int .i64 0, .int .u8 126, .int .u8 126, .int .u8 126, .int .u8 167, .int .u8 167, .int .i64 0, .int .u8 126, .int .u8 0, .int .u8 127, .int .u8 172, .int .u8 173, .int .i64 0, .int .u8 127, .int .u8 0, .int .u8 126] t frozen | o => o) } : World).forCall (fun _ _ => 0) ⟨#[], args, []⟩).memory :=
  laidMetH_of_parts (laidMet_of_run' 8 (by kernel_rfl) (by kernel_rfl)) (by kernel_rfl)

set_option maxRecDepth 100000 in
theorem lifted (os : Os) (started : os.Started) (H : Type) (enc : TypeId × Value → H) :
    ReturnsInHanded {} Tryd.checked os 4 .any (fun w args => (Rows.exprDecodesSpec.pre enc Tryd.prog Tryd.f4 [] false w args ∧ laidMetH Tryd.prog Rows.exprDecodesRow.laid w) ∧ sizedMet enc Tryd.prog Tryd.f4 (OpenSpec.ofChange Rows.exprDecodesSpec) false w args) (Rows.exprDecodesSpec.post enc Tryd.prog Tryd.f4 false true false false) := by
  refine returnsInHanded_of_change_and (C := Tryd.checked) (X := fun w _ => laidMetH Tryd.prog Rows.exprDecodesRow.laid w) (fun _ _ _ hh h => h.of_heap hh) own started (by kernel_rfl) Tryd.func4
    (ChangeSpec.witness_at (enc := enc) (C := Tryd.checked) (os := os) (X := fun w _ => laidMetH Tryd.prog Rows.exprDecodesRow.laid w) false ({ World.holding Tryd.prog os ⟨#[], #[], []⟩ with heap := ((((World.holding Tryd.prog os ⟨#[], #[], []⟩).heap.modify 0 fun | .cells _ t frozen => .cells #[.iface 116 (.agg #[.pointer (some ⟨3, 29, none⟩)])] t frozen | o => o).modify 1 fun | .cells _ t frozen => .cells #[.int .u8 42, .int .u8 43, .int .u8 56, .int .u8 57, .int .u8 67, .int .u8 68, .int .u8 91, .int .u8 102, .int .u8 139, .int .u8 166, .int .u8 168, .int .u8 171, .int .u8 174, .int .u8 191] t frozen | o => o).modify 2 fun | .cells _ t frozen => .cells #[.int .u8 0, .int .u8 1, .int .i64 0, .int .u8 0, .int .u8 0, .int .u8 0, .int .u8 2, .int .u8 3, .int .i64 6, .int .u8 0, .int .u8 0, .int .u8 0, .int .u8 4, .int .u8 4, .int .i64 7, .int .u8 0, .int .u8 0, .int .u8 0, .int .u8 12, .int .u8 13, .int .i64 3, .int .u8 0, .int .u8 0, .int .u8 0, .int .u8 14, .int .u8 14, .int .i64 8, .int .u8 0, .int .u8 0, .int .u8 0, .int .u8 15, .int .u8 15, .int .i64 0, .int .u8 0, .int .u8 0, .int .u8 0, .int .u8 16, .int .u8 16, .int .i64 3, .int .u8 0, .int .u8 0, .int .u8 0, .int .u8 17, .int .u8 17, .int .i64 9, .int .u8 0, .int .u8 0, .int .u8 0, .int .u8 26, .int .u8 27, .int .i64 0, .int .u8 0, .int .u8 0, .int .u8 0, .int .u8 32, .int .u8 36, .int .i64 3, .int .u8 0, .int .u8 0, .int .u8 0, .int .u8 40, .int .u8 40, .int .i64 4, .int .u8 127, .int .u8 0, .int .u8 127, .int .u8 41, .int .u8 41, .int .i64 4, .int .u8 127, .int .u8 0, .int .u8 126, .int .u8 44, .int .u8 47, .int .i64 4, .int .u8 127, .int .u8 0, .int .u8 127, .int .u8 48, .int .u8 53, .int .i64 4, .int .u8 127, .int .u8 0, .int .u8 126, .int .u8 54, .int .u8 54, .int .i64 4, .int .u8 127, .int .u8 127, .int .u8 0, .int .u8 55, .int .u8 55, .int .i64 4, .int .u8 127, .int .u8 126, .int .u8 0, .int .u8 58, .int .u8 59, .int .i64 4, .int .u8 127, .int .u8 127, .int .u8 0, .int .u8 60, .int .u8 62, .int .i64 4, .int .u8 127, .int .u8 126, .int .u8 0, .int .u8 63, .int .u8 63, .int .i64 5, .int .u8 0, .int .u8 0, .int .u8 127, .int .u8 64, .int .u8 64, .int .i64 5, .int .u8 127, .int .u8 0, .int .u8 127, .int .u8 65, .int .u8 65, .int .i64 1, .int .u8 0, .int .u8 0, .int .u8 127, .int .u8 66, .int .u8 66, .int .i64 2, .int .u8 0, .int .u8 0, .int .u8 126, .int .u8 69, .int .u8 69, .int .i64 0, .int .u8 127, .int .u8 0, .int .u8 127, .int .u8 70, .int .u8 79, .int .i64 0, .int .u8 127, .int .u8 127, .int .u8 127, .int .u8 80, .int .u8 80, .int .i64 0, .int .u8 126, .int .u8 0, .int .u8 127, .int .u8 81, .int .u8 90, .int .i64 0, .int .u8 126, .int .u8 126, .int .u8 127, .int .u8 103, .int .u8 105, .int .i64 0, .int .u8 127, .int .u8 0, .int .u8 127, .int .u8 106, .int .u8 120, .int .i64 0, .int .u8 127, .int .u8 127, .int .u8 127, .int .u8 121, .int .u8 123, .int .i64 0, .int .u8 126, .int .u8 0, .int .u8 126, .int .u8 124, .int .u8 138, .int .i64 0, .int .u8 126, .int .u8 126, .int .u8 126, .int .u8 167, .int .u8 167, .int .i64 0, .int .u8 126, .int .u8 0, .int .u8 127, .int .u8 172, .int .u8 173, .int .i64 0, .int .u8 127, .int .u8 0, .int .u8 126] t frozen | o => o) } : World) #[.slice none 0 0] 8 rfl (by kernel_rfl) (by kernel_rfl) (by kernel_rfl) (by kernel_rfl) (by kernel_rfl) (laidWorld_met os _)) ?_
  intro W base args ds gs before hval0 hW _ _ hL _
  have hLL : laidMet Tryd.prog [("mandrel/ops.floats", Rows.laid_mandrel_ops_floats), ("mandrel/ops.families", Rows.laid_mandrel_ops_families)] W ∧ handlesMet Tryd.prog [("errors.errorType", Rows.laid_errors_errorType)] W := hL
  have hg : ErrT W := handle_of_met hLL.2
  have hgTb : Tb W := ⟨families_laid hLL.1.tail, floats_laid hLL.1⟩
  have hval : ∀ (j : Nat) t v, Tryd.f4.params[j]? = some t → args[j]? = some v → Value.okWide Tryd.prog W .any base t v := hval0
  have hW' := hW
  obtain ⟨p, q, hA0, hV, rfl, hfz, hnd⟩ := hW
  have hA : DataW.TrodAll enc Tryd.prog W 0 (fun _ => true) true Tryd.f4.params.toList args.toList ds p := hA0
  rw [Tryd.params4] at hA hval
  obtain ⟨v0, vs0, d0, ds0, p0, q0, hargs, rfl, rfl, h0, r0⟩ := trodAll_cons hA
  obtain ⟨rfl, rfl, rfl⟩ := trodAll_nil r0
  obtain rfl : args = #[v0] := by cases args; simp_all
  obtain ⟨rfl, rfl⟩ := trodVars_none hV
  obtain ⟨a0, len0, cap0, rfl⟩ := okWide_slice Tryd.underlying27 (hval 0 27 v0 rfl rfl)
  have k0 := h0
  have lt0 : ∀ x ∈ p0, x.block < W.heap.size := by obtain ⟨m, hm⟩ := k0; exact DataW.trod_lt m _ _ _ hm
  obtain ⟨z0, w0⟩ : ∃ zs, IsRow .u8 W a0 len0 cap0 zs := by
    obtain ⟨fuel, hf⟩ := h0
    rcases open_ints Tryd.underlying27 Tryd.underlying5 (by kernel_rfl) hf with ⟨hcs, _⟩ | ⟨x, l, c, zs, hcs, _, hl, hm, hz, _, hcell, hwz⟩
    · simp [Value.cells] at hcs
      obtain ⟨rfl, rfl, rfl⟩ := hcs
      exact ⟨[], .inl ⟨rfl, rfl, rfl, rfl⟩⟩
    · simp [Value.cells] at hcs
      obtain ⟨rfl, rfl, rfl⟩ := hcs
      exact ⟨zs, .inr ⟨_, rfl, hl, hm, by simpa using hz, hcell, hwz⟩⟩
  clear hA0 hval0
  refine (walk a0 len0 cap0 z0 W hg hgTb w0).mono fun e W' ⟨he, bel⟩ => ?_
  subst he
  exact ⟨_, rfl, _, _, _, [], _, [], hW', trodAll_mk1 (shut_bool Tryd.underlying4 _), (trodAll_cons_mk (Below.trod laidOut (by kernel_rfl) (of_decide_eq_true (by kernel_rfl)) k0 bel lt0) trodAll_mk0), rfl, bel.frame _, fun h => by cases h⟩

theorem over : Rows.exprDecodesRow.holds Tryd.pinned (OpenSpec.ofChange Rows.exprDecodesSpec) :=
  OpenClaim.holds_of_wide 4 Tryd.f4 rfl rfl rfl rfl rfl rfl rfl ⟨rfl, rfl, rfl, rfl, rfl⟩ rfl rfl rfl rfl rfl (by kernel_rfl) Tryd.func4 (by kernel_rfl)
    (of_decide_eq_true (by kernel_rfl)) (by unfold Func.isWrapper; first | (rw [if_pos (by decide +kernel)]; kernel_rfl) | (rw [if_neg (by decide +kernel)]; exact ⟨rfl, rfl⟩))
    (fun os started H enc _ => lifted os started H enc)

theorem proved : Rows.ExprDecodesSaid := over
end Go.Proofs.YtjhmglefejclpaaDoor.exprDecodes

namespace Go.Proofs.YtjhmglefejclpaaDoor
theorem exprDecodes_holds : Rows.ExprDecodesSaid := exprDecodes.proved
theorem exprDecodes_card : Rows.ExprDecodesCardSaid :=
  Claim7.holds_tied_plain_at .later [] [.handle, .data, .data] true (true, "27487f0801419c3aa2d285dc382f7dafbb3a3d4e45b0768cf0bac19b1b748c3c") true
    exprDecodes_holds (fun _ h => by cases h) (by kernel_rfl) (fun _ h => by cases h) exprDecodes_row_tie rfl ⟨rfl, rfl⟩ (by kernel_rfl) rfl
    (fun f fn hf hfn => by
      obtain rfl : 4 = f := Option.some.inj (Eq.trans (by kernel_rfl) hf)
      obtain rfl : fn = Tryd.f4 := (Option.some.inj (Tryd.func4.symm.trans hfn)).symm
      exact ⟨by kernel_rfl, fun j t ht => by
        rw [Tryd.params4] at ht
        rcases j with _ | j
        · obtain rfl : t = 27 := by simpa using ht.symm
          exact (show Tryd.prog.wantsStandIn 27 = false by kernel_rfl)
        · simp at ht⟩)
    (by kernel_rfl)
end Go.Proofs.YtjhmglefejclpaaDoor
