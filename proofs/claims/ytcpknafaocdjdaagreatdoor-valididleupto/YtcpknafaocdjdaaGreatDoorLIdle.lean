/- LIdle: what follows, part by part: each part tells what it holds. -/
import Derived.Test.YtcpknafaocdjdaaGreatDoorWK
import Derived.Test.YtcpknafaocdjdaaGreatDoorWM
import Derived.Test.YtcpknafaocdjdaaGreatDoorWJ
import Derived.Deep.Upon
import Derived.Test.YtcpknafaocdjdaaGreatDoorWL
import Derived.Test.YtcpknafaocdjdaaGreatDoorWA
import Derived.Deep.RegionHeld3
import Derived.Deep.MidRow
import Derived.OpenShut
import Derived.Lib.SmallJoins
import Derived.Test.YtcpknafaocdjdaaGreatDoorRows
import Derived.Test.YtcpknafaocdjdaaGreatDoorTie
import Derived.Test.YtcpknafaocdjdaaGreatDoorCards
import Derived.WalkKit
import Derived.ProofKit
import Derived.ShutString
import Derived.ChangeOld
import Derived.Below
import Derived.ChangeMaps5
import Derived.Deep.DeepHandedRow

/- ValidIdle, as plain mathematics: a most that is greater; the module by what sign asks of it. -/
namespace Go.Proofs.YtcpknafaocdjdaaGreatDoor
open Go.RowKit
namespace Vw
set_option linter.unusedVariables false
set_option linter.unusedSimpArgs false
open Ex (Ins)
open Gm (Mod Typ Fnc)
/-- with a most of at least m -/
def mx (m : Nat) (s : St) : St := { s with most := max s.most m }
theorem tkA_mx (m : Nat) (s : St) : tkA (mx m s) = ((tkA s).1, (tkA s).2.1, mx m (tkA s).2.2) := by
  unfold tkA mx; simp only; split <;> rfl
theorem tk_mx (m : Nat) (s : St) (k : Int) : tk (mx m s) k = (tk s k).map (mx m) := by
  unfold tk; rw [tkA_mx]
  split
  · rfl
  · simp only; split <;> rfl
theorem ly_mx (m : Nat) (s : St) (k : Int) : ly (mx m s) k = mx m (ly s k) := by
  unfold ly mx; simp only
  split
  · rfl
  · cases h : (s.beh || s.wit)
    · simp only [Bool.false_eq_true, if_false]; congr 1; omega
    · simp only [if_true]
theorem drp_mx (m : Nat) (s : St) : drp (mx m s) = (drp s).map (mx m) := by
  unfold drp; rw [tkA_mx]; simp only; split <;> rfl
theorem sel2_mx (m : Nat) (b : Int) (s : St) : sel2 b (mx m s) = (sel2 b s).map (mx m) := by
  unfold sel2; rw [tkA_mx]; simp only
  split
  · rw [ly_mx]; rfl
  · rfl
theorem sel_mx (m : Nat) (s : St) : sel (mx m s) = (sel s).map (mx m) := by
  unfold sel; rw [tk_mx]
  cases tk s 127 with
  | none => rfl
  | some s1 => simp only [Option.map_some, Option.bind_some]; rw [tkA_mx]; exact sel2_mx m _ _
theorem tks_mx (m : Nat) : ∀ (l : List Int) (s : St), tks l (mx m s) = (tks l s).map (mx m)
  | [], s => rfl
  | k :: r, s => by
    unfold tks; rw [tk_mx]
    cases tk s k with
    | none => rfl
    | some s1 => simp only [Option.map_some, Option.bind_some]; exact tks_mx m r s1
theorem app_mx (m : Nat) (t : Typ) (s : St) : app t (mx m s) = (app t s).map (mx m) := by
  unfold app; rw [tks_mx]
  cases tks t.ps.reverse s with
  | none => rfl
  | some s1 => simp only [Option.map_some]; rw [ly_mx]
theorem flat_mx (m : Nat) (M : Mod) (lo : List Int) (i : Ins) (s : St) : flat M lo i (mx m s) = (flat M lo i s).map (mx m) := by
  unfold flat
  rw [show (mx m s).la = s.la from rfl]
  cases sig M lo s.la i with
  | none => rfl
  | some t =>
    simp only [Option.bind_some]; rw [app_mx]
    cases app t s with
    | none => rfl
    | some s1 => simp only [Option.map_some]; split <;> rfl
theorem cls_mx (m : Nat) (o : St) (r : Int) (s : St) : cls (mx m o) r (mx m s) = (cls o r s).map (mx m) := by
  unfold cls; rw [tk_mx]
  cases tk s r with
  | none => rfl
  | some s1 => simp only [Option.map_some, Option.bind_some, mx]; split <;> rfl
theorem blk_mx (m : Nat) {f : St → Option St} (hf : ∀ s, f (mx m s) = (f s).map (mx m)) (la re : Int) (s : St) : blk f la re (mx m s) = (blk f la re s).map (mx m) := by
  unfold blk
  rw [show opn (mx m s) la = mx m (opn s la) from rfl, hf]
  cases f (opn s la) with
  | none => rfl
  | some s1 => simp only [Option.map_some, Option.bind_some]; exact cls_mx m s re s1
theorem ins_mx (m : Nat) (M : Mod) (lo : List Int) (l : List Ins) : ∀ s, ins M lo l (mx m s) = (ins M lo l s).map (mx m) := by
  refine Ex.ind (P := fun l => ∀ s, ins M lo l (mx m s) = (ins M lo l s).map (mx m)) (fun s => by rw [ins_nil, ins_nil]; rfl) ?_ l
  intro op n al of re b e ls r hb he hr s
  have h1 : ins1 M lo ⟨op, n, al, of, re, b, e, ls⟩ (mx m s) = (ins1 M lo ⟨op, n, al, of, re, b, e, ls⟩ s).map (mx m) := by
    unfold ins1
    simp only
    have hB := fun (la r : Int) (s : St) => blk_mx m (f := fun s => ins M lo b s) hb la r s
    have hE := fun (la r : Int) (s : St) => blk_mx m (f := fun s => ins M lo e s) he la r s
    split
    · exact drp_mx m s
    split
    · exact sel_mx m s
    split
    · split
      · rw [hB]
        cases blk (fun s => ins M lo b s) re re s with
        | none => rfl
        | some s1 => simp only [Option.map_some]; rw [ly_mx]
      · rfl
    split
    · split
      · rw [hB]
        cases blk (fun s => ins M lo b s) 0 re s with
        | none => rfl
        | some s1 => simp only [Option.map_some]; rw [ly_mx]
      · rfl
    split
    · rw [tk_mx]
      cases tk s 127 with
      | none => rfl
      | some s0 =>
        simp only [Option.map_some, Option.bind_some]
        split
        · rw [hB]
          cases blk (fun s => ins M lo b s) re re s0 with
          | none => rfl
          | some s1 =>
            simp only [Option.map_some, Option.bind_some]; rw [hE]
            cases blk (fun s => ins M lo e s) re re s1 with
            | none => rfl
            | some s2 => simp only [Option.map_some]; rw [ly_mx]
        · rfl
    · exact flat_mx m M lo _ s
  rw [ins_cons, ins_cons, h1]
  cases ins1 M lo ⟨op, n, al, of, re, b, e, ls⟩ s with
  | none => rfl
  | some s1 => simp only [Option.map_some, Option.bind_some]; exact hr s1

/-- instructions hang on the module by what sign says alone -/
theorem ins_sig {M M' : Mod} (h : ∀ lo la i, sig M lo la i = sig M' lo la i) (lo : List Int) (l : List Ins) : ∀ s, ins M lo l s = ins M' lo l s := by
  refine Ex.ind (P := fun l => ∀ s, ins M lo l s = ins M' lo l s) (fun s => by rw [ins_nil, ins_nil]) ?_ l
  intro op n al of re b e ls r hb he hr s
  have hb' : (fun s => ins M lo b s) = fun s => ins M' lo b s := funext hb
  have he' : (fun s => ins M lo e s) = fun s => ins M' lo e s := funext he
  have h1 : ins1 M lo ⟨op, n, al, of, re, b, e, ls⟩ s = ins1 M' lo ⟨op, n, al, of, re, b, e, ls⟩ s := by
    unfold ins1; simp only [hb', he']; unfold flat; rw [h]
  rw [ins_cons, ins_cons, h1]
  cases ins1 M' lo ⟨op, n, al, of, re, b, e, ls⟩ s with
  | none => rfl
  | some s1 => simp only [Option.bind_some]; exact hr s1
theorem sig_scn (ps : List Int) (re : Int) (b1 b2 : List Ins) (lo la : List Int) (i : Ins) : sig (scn ps re b1) lo la i = sig (scn ps re b2) lo la i := by
  have hty : ∀ n, Gm.ty? (scn ps re b1) n = Gm.ty? (scn ps re b2) n := by
    intro n
    unfold Gm.ty?
    split
    · rfl
    · have : ∀ k : Nat, ((scn ps re b1).funcs[k]?).bind (fun fn => (scn ps re b1).types[fn.ty.toNat]?) = ((scn ps re b2).funcs[k]?).bind (fun fn => (scn ps re b2).types[fn.ty.toNat]?) := by
        intro k
        match k with
        | 0 => rfl
        | 1 => rfl
        | 2 => rfl
        | k + 3 => rfl
      exact this _
  unfold sig
  rw [hty]
  rfl
theorem ins_scn (ps : List Int) (re : Int) (b1 b2 : List Ins) (lo : List Int) (l : List Ins) (s : St) : ins (scn ps re b1) lo l s = ins (scn ps re b2) lo l s := ins_sig (fun lo la i => sig_scn ps re b1 b2 lo la i) lo l s
/-- a nop, a const that is dropped, ahead of a body -/
theorem idle_over (ps : List Int) (re : Int) (body : List Ins) : over (scn ps re (in0 1 0 :: in0 66 5 :: in0 26 0 :: body)) 0 = (over (scn ps re body) 0).map fun m => max m 1 := by
  rw [over_scn, over_scn]
  unfold blk
  simp only
  have h3 : ins (scn ps re (in0 1 0 :: in0 66 5 :: in0 26 0 :: body)) (ps ++ [127, 126]) (in0 1 0 :: in0 66 5 :: in0 26 0 :: body) (opn s00 re) = (ins (scn ps re body) (ps ++ [127, 126]) body (opn s00 re)).map (mx 1) := by
    rw [ins_cons, in1, Option.bind_some, ins_cons, in66, Option.bind_some, ins_cons, in26]
    have hd : drp (ly (opn s00 re) 126) = some (mx 1 (opn s00 re)) := rfl
    rw [hd, Option.bind_some, ins_mx, ins_scn ps re _ body]
  rw [h3]
  cases ins (scn ps re body) (ps ++ [127, 126]) body (opn s00 re) with
  | none => rfl
  | some s1 =>
    simp only [Option.map_some, Option.bind_some]
    rw [show cls s00 re (mx 1 s1) = cls (mx 1 s00) re (mx 1 s1) from rfl, cls_mx]
    cases cls s00 re s1 with
    | none => rfl
    | some s2 => rfl
end Vw
end Go.Proofs.YtcpknafaocdjdaaGreatDoor

/- ValidIdle, as plain mathematics: a body within a block of its result. -/
namespace Go.Proofs.YtcpknafaocdjdaaGreatDoor
open Go.RowKit
namespace Vw
set_option linter.unusedVariables false
set_option linter.unusedSimpArgs false
open Ex (Ins)
open Gm (Mod Typ Fnc)
/-- with one label more beneath all -/
def xl (x : Int) (s : St) : St := { s with la := x :: s.la }
theorem tkA_xl (x : Int) (s : St) : tkA (xl x s) = ((tkA s).1, (tkA s).2.1, xl x (tkA s).2.2) := by
  unfold tkA xl; simp only; split <;> rfl
theorem tk_xl (x : Int) (s : St) (k : Int) : tk (xl x s) k = (tk s k).map (xl x) := by
  unfold tk; rw [tkA_xl]
  split
  · rfl
  · simp only; split <;> rfl
theorem ly_xl (x : Int) (s : St) (k : Int) : ly (xl x s) k = xl x (ly s k) := by
  unfold ly xl; simp only; split <;> rfl
theorem drp_xl (x : Int) (s : St) : drp (xl x s) = (drp s).map (xl x) := by
  unfold drp; rw [tkA_xl]; simp only; split <;> rfl
theorem sel2_xl (x b : Int) (s : St) : sel2 b (xl x s) = (sel2 b s).map (xl x) := by
  unfold sel2; rw [tkA_xl]; simp only
  split
  · rw [ly_xl]; rfl
  · rfl
theorem sel_xl (x : Int) (s : St) : sel (xl x s) = (sel s).map (xl x) := by
  unfold sel; rw [tk_xl]
  cases tk s 127 with
  | none => rfl
  | some s1 => simp only [Option.map_some, Option.bind_some]; rw [tkA_xl]; exact sel2_xl x _ _
theorem tks_xl (x : Int) : ∀ (l : List Int) (s : St), tks l (xl x s) = (tks l s).map (xl x)
  | [], s => rfl
  | k :: r, s => by
    unfold tks; rw [tk_xl]
    cases tk s k with
    | none => rfl
    | some s1 => simp only [Option.map_some, Option.bind_some]; exact tks_xl x r s1
theorem app_xl (x : Int) (t : Typ) (s : St) : app t (xl x s) = (app t s).map (xl x) := by
  unfold app; rw [tks_xl]
  cases tks t.ps.reverse s with
  | none => rfl
  | some s1 => simp only [Option.map_some]; rw [ly_xl]
theorem lbl_xl {x : Int} {la : List Int} {n k : Int} (h : lbl la n = some k) : lbl (x :: la) n = some k := by
  unfold lbl at h ⊢
  split at h
  · cases h
  · rename_i hn
    split at h
    · rename_i h2
      rw [if_neg hn, if_pos (by simp only [List.length_cons]; omega), ← h]
      congr 1
      rw [show (x :: la).length - 1 - n.toNat = (la.length - 1 - n.toNat) + 1 by simp only [List.length_cons]; omega]
      rfl
    · cases h
theorem comm_xl {x : Int} {la ls : List Int} {k : Int} (h : comm la ls = some k) : comm (x :: la) ls = some k := by
  unfold comm at h ⊢
  split at h
  · cases h
  · rename_i hl
    rw [if_neg hl]
    cases h1 : lbl la (ls.getLastD 0) with
    | none => rw [h1] at h; cases h
    | some k' =>
      rw [h1] at h
      simp only [Option.bind_some] at h
      split at h
      · rename_i ha
        cases h
        rw [lbl_xl h1]
        simp only [Option.bind_some]
        rw [if_pos]
        rw [List.all_eq_true] at ha ⊢
        intro z hz
        have := of_decide_eq_true (ha z hz)
        exact decide_eq_true (lbl_xl this)
      · cases h
theorem sig_xl {M : Mod} {lo la : List Int} {x : Int} {i : Ins} {t : Typ} (hla : la ≠ []) (hx : la.getD 0 0 = x) (h : sig M lo la i = some t) : sig M lo (x :: la) i = some t := by
  unfold sig at h ⊢
  by_cases c1 : i.op = 0 ∨ i.op = 1
  · rw [if_pos c1] at h ⊢; exact h
  rw [if_neg c1] at h ⊢
  by_cases c2 : i.op = 15
  · rw [if_pos c2] at h ⊢; rw [hx] at h; exact h
  rw [if_neg c2] at h ⊢
  by_cases c3 : i.op = 12
  · rw [if_pos c3] at h ⊢
    cases hl : lbl la i.n with
    | none => rw [hl] at h; cases h
    | some k => rw [hl] at h; rw [lbl_xl hl]; exact h
  rw [if_neg c3] at h ⊢
  by_cases c4 : i.op = 13
  · rw [if_pos c4] at h ⊢
    cases hl : lbl la i.n with
    | none => rw [hl] at h; cases h
    | some k => rw [hl] at h; rw [lbl_xl hl]; exact h
  rw [if_neg c4] at h ⊢
  by_cases c5 : i.op = 14
  · rw [if_pos c5] at h ⊢
    cases hl : comm la i.ls with
    | none => rw [hl] at h; cases h
    | some k => rw [hl] at h; rw [comm_xl hl]; exact h
  rw [if_neg c5] at h ⊢
  exact h
/-- what holds of going over something with one label more beneath -/
def Xl (x : Int) (f : St → Option St) : Prop := ∀ s s', s.la ≠ [] → s.la.getD 0 0 = x → s.ben ≤ s.st.length → f s = some s' → f (xl x s) = some (xl x s')
theorem flat_xl {x : Int} {M : Mod} {lo : List Int} {i : Ins} : Xl x (flat M lo i) := by
  intro s s' hla hx _ h
  unfold flat at h ⊢
  cases hs : sig M lo s.la i with
  | none => rw [hs] at h; cases h
  | some t =>
    rw [hs] at h
    rw [show (xl x s).la = x :: s.la from rfl, sig_xl hla hx hs]
    simp only [Option.bind_some] at h ⊢
    rw [app_xl]
    cases ha : app t s with
    | none => rw [ha] at h; cases h
    | some s1 =>
      rw [ha] at h
      simp only [Option.map_some, Option.some.injEq] at h ⊢
      subst h
      split <;> rfl
theorem cls_xl {x : Int} {o s s' : St} {r : Int} (hla : s.la ≠ []) (h : cls o r s = some s') : cls (xl x o) r (xl x s) = some (xl x s') := by
  unfold cls at h ⊢
  rw [tk_xl]
  cases ht : tk s r with
  | none => rw [ht] at h; cases h
  | some s1 =>
    rw [ht] at h
    simp only [Option.map_some, Option.bind_some] at h ⊢
    have hl1 : s1.la = s.la := by
      unfold tk at ht
      split at ht
      · cases ht; rfl
      · split at ht
        · cases ht; unfold tkA; split <;> rfl
        · cases ht
    split at h
    · cases h
    · rename_i c
      rw [if_neg (show ¬ (xl x s1).ben < (xl x s1).st.length from c)]
      cases h
      have : (x :: s1.la).dropLast = x :: s1.la.dropLast := by
        cases hq : s1.la with
        | nil => rw [hl1] at hq; exact absurd hq hla
        | cons a b => rfl
      unfold xl
      simp only [this]
theorem blk_xl {x : Int} {f : St → Option St} (hf : Xl x f) (hk : ∀ s s', s.ben ≤ s.st.length → f s = some s' → Kk s s') (la re : Int) : Xl x (blk f la re) := by
  intro s s' hla hx hb h
  unfold blk at h ⊢
  cases h1 : f (opn s la) with
  | none => rw [h1] at h; cases h
  | some s1 =>
    rw [h1] at h
    have ho : (opn s la).la = s.la ++ [la] := rfl
    have e := hf (opn s la) s1 (by rw [ho]; simp) (by
      rw [ho]
      cases hq : s.la with
      | nil => exact absurd hq hla
      | cons a b => rw [hq] at hx; exact hx) (Nat.le_refl _) h1
    have kk := hk _ _ (Nat.le_refl _) h1
    rw [show opn (xl x s) la = xl x (opn s la) from rfl, e]
    simp only [Option.bind_some] at h ⊢
    exact cls_xl (by rw [kk.1, ho]; simp) h
theorem ins_xl (x : Int) (M : Mod) (lo : List Int) (l : List Ins) : Xl x (ins M lo l) := by
  refine Ex.ind (P := fun l => Xl x (ins M lo l)) (fun s s' _ _ _ h => by rw [ins_nil] at h ⊢; cases h; rfl) ?_ l
  intro op n al of re b e ls r hb he hr s s' hla hx hbn h
  have kb := ins_k b (k1_all M lo b)
  have ke := ins_k e (k1_all M lo e)
  have hB := fun (la r : Int) => blk_xl (f := fun s => ins M lo b s) hb kb la r
  have hE := fun (la r : Int) => blk_xl (f := fun s => ins M lo e s) he ke la r
  rw [ins_cons] at h ⊢
  cases h0 : ins1 M lo ⟨op, n, al, of, re, b, e, ls⟩ s with
  | none => rw [h0] at h; cases h
  | some s1 =>
    rw [h0] at h
    have k1 := (k1_all M lo [⟨op, n, al, of, re, b, e, ls⟩] _ (by simp)) s s1 hbn h0
    have h1 : ins1 M lo ⟨op, n, al, of, re, b, e, ls⟩ (xl x s) = some (xl x s1) := by
      unfold ins1 at h0 ⊢
      simp only at h0 ⊢
      split at h0
      · rename_i c; rw [if_pos c, drp_xl, h0]; rfl
      rename_i c; rw [if_neg c]
      split at h0
      · rename_i c; rw [if_pos c, sel_xl, h0]; rfl
      rename_i c; rw [if_neg c]
      split at h0
      · rename_i c; rw [if_pos c]
        split at h0
        · rename_i c; rw [if_pos c]
          cases hq : blk (fun s => ins M lo b s) re re s with
          | none => rw [hq] at h0; cases h0
          | some s2 => rw [hq] at h0; rw [hB re re s s2 hla hx hbn hq]; cases h0; simp only [Option.map_some]; rw [ly_xl]
        · cases h0
      rename_i c; rw [if_neg c]
      split at h0
      · rename_i c; rw [if_pos c]
        split at h0
        · rename_i c; rw [if_pos c]
          cases hq : blk (fun s => ins M lo b s) 0 re s with
          | none => rw [hq] at h0; cases h0
          | some s2 => rw [hq] at h0; rw [hB 0 re s s2 hla hx hbn hq]; cases h0; simp only [Option.map_some]; rw [ly_xl]
        · cases h0
      rename_i c; rw [if_neg c]
      split at h0
      · rename_i c; rw [if_pos c, tk_xl]
        cases ht : tk s 127 with
        | none => rw [ht] at h0; cases h0
        | some s0 =>
          rw [ht] at h0
          simp only [Option.map_some, Option.bind_some] at h0 ⊢
          have k0 := (tk_k hbn ht).2
          split at h0
          · rename_i c; rw [if_pos c]
            cases hq : blk (fun s => ins M lo b s) re re s0 with
            | none => rw [hq] at h0; cases h0
            | some s2 =>
              rw [hq] at h0
              have k2 := (blk_k (f := fun s => ins M lo b s) kb k0.2.2 hq).2
              rw [hB re re s0 s2 (by rw [k0.1]; exact hla) (by rw [k0.1]; exact hx) k0.2.2 hq]
              simp only [Option.bind_some] at h0 ⊢
              cases hq2 : blk (fun s => ins M lo e s) re re s2 with
              | none => rw [hq2] at h0; cases h0
              | some s3 =>
                rw [hq2] at h0
                rw [hE re re s2 s3 (by rw [k2.1, k0.1]; exact hla) (by rw [k2.1, k0.1]; exact hx) k2.2.2 hq2]
                cases h0; simp only [Option.map_some]; rw [ly_xl]
          · cases h0
      · rename_i c; rw [if_neg c]
        exact flat_xl s s1 hla hx hbn h0
    rw [h1]
    simp only [Option.bind_some] at h ⊢
    have q := k1.2.1
    exact hr s1 s' (by rw [q]; exact hla) (by rw [q]; exact hx) k1.2.2.2 h
/-- a body within a block of its result -/
theorem block_over (ps : List Int) (re : Int) (body : List Ins) (hre : isR re = true) {m : Nat} (h : over (scn ps re body) 0 = some m) :
    over (scn ps re [⟨2, 0, 0, 0, re, body, [], []⟩]) 0 = some (max m (if re = 0 then 0 else 1)) := by
  rw [over_scn] at h ⊢
  rw [show (fun s => ins (scn ps re [⟨2, 0, 0, 0, re, body, [], []⟩]) (ps ++ [127, 126]) [⟨2, 0, 0, 0, re, body, [], []⟩] s) = fun s => ins (scn ps re body) (ps ++ [127, 126]) [⟨2, 0, 0, 0, re, body, [], []⟩] s from funext fun s => ins_scn ps re _ body _ _ s]
  generalize scn ps re body = M at h ⊢
  generalize ps ++ [127, 126] = lo at h ⊢
  unfold blk at h
  simp only at h
  cases h1 : ins M lo body (opn s00 re) with
  | none => rw [h1] at h; cases h
  | some s1 =>
    simp only [h1, Option.bind_some] at h
    cases h2 : cls s00 re s1 with
    | none => rw [h2] at h; cases h
    | some s2 =>
      rw [h2] at h
      simp only [Option.map_some, Option.some.injEq] at h
      have kk := ins_k body (k1_all M lo body) _ _ (Nat.le_refl _) h1
      have e1 := ins_xl re M lo body (opn s00 re) s1 (by simp [opn, s00]) rfl (Nat.le_refl _) h1
      have e2 := cls_xl (x := re) (by rw [kk.1]; simp [opn, s00]) h2
      have hs2 : s2 = ⟨[], [], 0, false, false, m⟩ := by
        unfold cls at h2
        cases ht : tk s1 re with
        | none => rw [ht] at h2; cases h2
        | some s3 =>
          rw [ht] at h2
          simp only [Option.bind_some] at h2
          have k3 := (tk_k kk.2.2 ht).2
          split at h2
          · cases h2
          · rename_i c
            cases h2
            have hb : s3.ben = 0 := by rw [k3.2.1, kk.2.1]; rfl
            have hst : s3.st = [] := List.eq_nil_of_length_eq_zero (by omega)
            have hla : s3.la = [re] := by rw [k3.1, kk.1]; rfl
            simp only at h
            rw [hst, hla, h]; rfl
      subst hs2
      have e3 : blk (fun s => ins M lo body s) re re (opn s00 re) = some (xl re ⟨[], [], 0, false, false, m⟩) := by
        unfold blk
        rw [show opn (opn s00 re) re = xl re (opn s00 re) from rfl]
        simp only [e1, Option.bind_some]
        exact e2
      have e4 : ins M lo [⟨2, 0, 0, 0, re, body, [], []⟩] (opn s00 re) = some (ly (xl re ⟨[], [], 0, false, false, m⟩) re) := by
        rw [ins_cons]
        unfold ins1
        simp only [Int.reduceEq, if_false, if_true, hre, e3, Option.map_some, Option.bind_some, ins_nil]
      unfold blk
      simp only [e4, Option.bind_some]
      by_cases h0 : re = 0
      · subst h0; simp [ly, cls, tk, xl]
      · have hr1 : ¬ re = 1 := by
          intro h; subst h; revert hre; decide
        simp [ly, cls, tk, tkA, xl, h0]
end Vw
end Go.Proofs.YtcpknafaocdjdaaGreatDoor

/- ValidIdle, as plain mathematics: what Height and Body say of the three modules. -/
namespace Go.Proofs.YtcpknafaocdjdaaGreatDoor
open Go.RowKit
namespace Vw
set_option linter.unusedVariables false
set_option linter.unusedSimpArgs false
open Ex (Ins)
open Gm (Mod Typ Fnc)
theorem kinds_scn (ps : List Int) (re : Int) (b1 b2 : List Ins) : kinds (scn ps re b1) = kinds (scn ps re b2) := by
  unfold kinds scn; simp
theorem kinds_re {ps : List Int} {re : Int} {b : List Ins} (h : kinds (scn ps re b) = true) : isR re = true := by
  unfold kinds scn okT at h
  simp only [List.all_cons, Bool.and_eq_true] at h
  exact h.1.1.2
theorem ty_scn (ps : List Int) (re : Int) (b : List Ins) : Gm.ty? (scn ps re b) 0 = some ⟨ps, re⟩ := by
  unfold Gm.ty? scn; rfl
theorem hgE_scn (ps : List Int) (re : Int) (b : List Ins) : hgE (scn ps re b) 0 = if kinds (scn ps re b) then (if (over (scn ps re b) 0).isSome then 0 else 7) else 1 := by
  unfold hgE; rw [ty_scn]; simp
theorem hgN_scn (ps : List Int) (re : Int) (b : List Ins) : hgN (scn ps re b) 0 = if kinds (scn ps re b) then (((over (scn ps re b) 0).getD 0 : Nat) : Int) else 0 := by
  unfold hgN; rw [ty_scn]; simp
/-- with a nop, a const and a drop ahead -/
def idl (body : List Ins) : List Ins := in0 1 0 :: in0 66 5 :: in0 26 0 :: body
/-- within a block of its result -/
def blkd (re : Int) (body : List Ins) : List Ins := [⟨2, 0, 0, 0, re, body, [], []⟩]
theorem idle_E (ps : List Int) (re : Int) (body : List Ins) : hgE (scn ps re (idl body)) 0 = hgE (scn ps re body) 0 := by
  rw [hgE_scn, hgE_scn, kinds_scn ps re (idl body) body]
  unfold idl
  rw [idle_over]
  cases over (scn ps re body) 0 <;> rfl
theorem idle_N {ps : List Int} {re : Int} {body : List Ins} (h : hgE (scn ps re body) 0 = 0) : hgN (scn ps re (idl body)) 0 = max (hgN (scn ps re body) 0) 1 := by
  rw [hgE_scn] at h
  rw [hgN_scn, hgN_scn, kinds_scn ps re (idl body) body]
  cases hk : kinds (scn ps re body) with
  | false => rw [hk] at h; simp at h
  | true =>
    rw [hk] at h
    unfold idl
    rw [idle_over]
    cases ho : over (scn ps re body) 0 with
    | none => rw [ho] at h; simp at h
    | some m => simp only [if_true, Option.map_some, Option.getD_some]; omega
theorem blk_EN {ps : List Int} {re : Int} {body : List Ins} (h : hgE (scn ps re body) 0 = 0) : hgE (scn ps re (blkd re body)) 0 = 0 ∧ hgN (scn ps re (blkd re body)) 0 = max (hgN (scn ps re body) 0) (if re = 0 then 0 else 1) := by
  rw [hgE_scn] at h
  rw [hgE_scn, hgN_scn, hgN_scn, kinds_scn ps re (blkd re body) body]
  cases hk : kinds (scn ps re body) with
  | false => rw [hk] at h; simp at h
  | true =>
    rw [hk] at h
    unfold blkd
    cases ho : over (scn ps re body) 0 with
    | none => rw [ho] at h; simp at h
    | some m =>
      rw [block_over ps re body (kinds_re hk) ho]
      simp only [if_true, Option.isSome_some, Option.getD_some]
      refine ⟨trivial, ?_⟩
      split <;> omega
theorem hg_ge (M : Mod) (f : Int) : hgE M f = 0 ∨ hgE M f = 1 ∨ hgE M f = 7 := by
  unfold hgE; split
  · split
    · exact .inl rfl
    · exact .inr (.inr rfl)
  · exact .inr (.inl rfl)
end Vw
end Go.Proofs.YtcpknafaocdjdaaGreatDoor

/- A body written into a module's row of functions: what lies as it lay. -/
namespace Go.Proofs.YtcpknafaocdjdaaGreatDoor
open Go.RowKit Go.Shelf
namespace Vw
set_option linter.unusedVariables false
set_option linter.unusedSimpArgs false
open Ex (Ins Lies Lab cnt)
open Gm (Mod Typ Fnc Byts ModL WfM LL TypC FncC LimC GloC ExoC ElmC DatC InsC OwF)
theorem set_ne {w : World} {fb b k : Nat} {nv : Value} (hr : ∃ cur T, w.heap[fb]? = some (.cells cur T (0, 0))) (h : ¬ (b = fb ∧ k = 2)) : (w.setCell ⟨fb, 2, none⟩ nv).cell? ⟨b, k, none⟩ = w.cell? ⟨b, k, none⟩ := by
  by_cases hb : b = fb
  · subst hb
    have hk : k ≠ 2 := fun e => h ⟨rfl, e⟩
    obtain ⟨cur, T, hr⟩ := hr
    rw [cell_of_row w b k _ _ _ hr, cell_of_row _ b k _ _ _ (heap_setCell_same w b 2 cur T nv hr)]
    simp [Ne.symm hk]
  · exact World.cell?_of_block (a := ⟨b, k, none⟩) (heap_setCell_other w ⟨fb, 2, none⟩ b _ hb)
/-- the cell that is written holds a slice, the next function's number stands behind it -/
structure Hole (w : World) (fb : Nat) : Prop where
  r : ∃ cur T, w.heap[fb]? = some (.cells cur T (0, 0))
  s : ∃ a n c, w.cell? ⟨fb, 2, none⟩ = some (.slice a n c)
  n : ∃ x, w.cell? ⟨fb, 3, none⟩ = some (.int .u32 x)
theorem Hole.keep {w : World} {fb b k : Nat} {nv x : Value} (h : Hole w fb) (hx : w.cell? ⟨b, k, none⟩ = some x) (hn : ∀ a n c, x ≠ .slice a n c) : (w.setCell ⟨fb, 2, none⟩ nv).cell? ⟨b, k, none⟩ = some x := by
  rw [set_ne h.r, hx]
  rintro ⟨rfl, rfl⟩
  obtain ⟨a, n, c, e⟩ := h.s
  rw [e] at hx
  exact hn a n c (Option.some.inj hx).symm
theorem Hole.far {w : World} {fb b k : Nat} {nv x : Value} (h : Hole w fb) (hx : w.cell? ⟨b, k, none⟩ = some x) (hk : k ≠ 2) : (w.setCell ⟨fb, 2, none⟩ nv).cell? ⟨b, k, none⟩ = some x := by
  rw [set_ne h.r (fun e => hk e.2), hx]
theorem Hole.byts {w : World} {fb : Nat} {nv : Value} (h : Hole w fb) {g : Nat → Prop} {zs : List Int} {v : Value} (hl : Lies g zs.length (Byts w zs) v) : Lies g zs.length (Byts (w.setCell ⟨fb, 2, none⟩ nv) zs) v :=
  Lies.move hl fun _ b o hg hp => ⟨hg, fun j hj => h.keep (hp j hj) (by intros; simp)⟩
theorem Hole.labs {w : World} {fb : Nat} {nv : Value} (h : Hole w fb) {g : Nat → Prop} {zs : List Int} {v : Value} (hl : Lies g zs.length (Lab w zs) v) : Lies g zs.length (Lab (w.setCell ⟨fb, 2, none⟩ nv) zs) v :=
  Lies.move hl fun _ b o hg hp => ⟨hg, fun j hj => h.keep (hp j hj) (by intros; simp)⟩
theorem Hole.items {w : World} {fb : Nat} {nv : Value} (h : Hole w fb) {g : Nat → Prop} (l : List Ins) : ∀ b o, Ex.Items w g l b o → Ex.Items (w.setCell ⟨fb, 2, none⟩ nv) g l b o := by
  refine Ex.ind (P := fun l => ∀ b o, Ex.Items w g l b o → Ex.Items (w.setCell ⟨fb, 2, none⟩ nv) g l b o) ?_ ?_ l
  · intro b o _; exact Ex.Items_nil _ _ _ _
  · intro op n al of re bo el ls r hbo hel hr b o hi
    rw [Ex.Items_cons] at hi ⊢
    obtain ⟨⟨vb, ve, vl, ⟨c0, c1, c2, c3, c4, c5, c6, c7⟩, h1, h2, h3⟩, h4⟩ := hi
    refine ⟨⟨vb, ve, vl, ⟨h.keep c0 (by intros; simp), h.keep c1 (by intros; simp), h.keep c2 (by intros; simp), h.keep c3 (by intros; simp), h.keep c4 (by intros; simp), h.far c5 (by omega), h.far c6 (by omega), h.far c7 (by omega)⟩, ?_, ?_, h.labs h3⟩, hr b _ h4⟩
    · exact Lies.move h1 fun _ b' o' hg hp => ⟨hg, hbo b' o' hp⟩
    · exact Lies.move h2 fun _ b' o' hg hp => ⟨hg, hel b' o' hp⟩
theorem Hole.code {w : World} {fb : Nat} {nv : Value} (h : Hole w fb) {g : Nat → Prop} {l : List Ins} {v : Value} (hl : Ex.Code w g l v) : Ex.Code (w.setCell ⟨fb, 2, none⟩ nv) g l v :=
  Lies.move hl fun _ b o hg hp => ⟨hg, h.items l b o hp⟩
theorem Hole.ins {w : World} {fb : Nat} {nv : Value} (h : Hole w fb) {g : Nat → Prop} {i : Ins} {cs : List Value} (hl : InsC w g i cs) : InsC (w.setCell ⟨fb, 2, none⟩ nv) g i cs := by
  obtain ⟨vb, ve, vl, e, h1, h2, h3⟩ := hl
  exact ⟨vb, ve, vl, e, h.code h1, h.code h2, h.labs h3⟩
/-- a list whose cells stay -/
theorem LL.kept {α : Type} {It : World → (Nat → Prop) → α → List Value → Prop} {c : Nat} {w w' : World} {g : Nat → Prop} {l : List α} {v : Value} (hs : w.heap.size ≤ w'.heap.size) (h : LL It c w g l v)
    (hI : ∀ x cs, It w g x cs → It w' g x cs) (hc : ∀ b o, (∀ i (h : i < l.length), ∃ cs, cs.length = c ∧ It w g l[i] cs ∧ ∀ j u, cs[j]? = some u → w.cell? ⟨b, o + i * c + j, none⟩ = some u) → ∀ i (h : i < l.length) cs, cs.length = c → It w g l[i] cs → (∀ j u, cs[j]? = some u → w.cell? ⟨b, o + i * c + j, none⟩ = some u) → ∀ j u, cs[j]? = some u → w'.cell? ⟨b, o + i * c + j, none⟩ = some u) : LL It c w' g l v :=
  Lies.move h fun hl b o hg hp => ⟨hg, Nat.lt_of_lt_of_le hp.1 hs, fun i hi => by
    obtain ⟨cs, h1, h2, h3⟩ := hp.2 i hi
    exact ⟨cs, h1, hI _ _ h2, hc b o hp.2 i hi cs h1 h2 h3⟩⟩
theorem scn_set {w : World} {g : Nat → Prop} {ps : List Int} {re : Int} {body nb : List Ins} {v0 v1 v2 v3 v4 v5 v6 v7 nv : Value} {fb cap : Nat} (h : ModL w g (scn ps re body) v0 v1 v2 v3 v4 v5 v6 v7) (hr : ∃ cur T, w.heap[fb]? = some (.cells cur T (0, 0))) (hv : v1 = .slice (some ⟨fb, 0, none⟩) 3 cap) (hn : Ex.Code w g nb nv) :
    ModL (w.setCell ⟨fb, 2, none⟩ nv) g (scn ps re nb) v0 v1 v2 v3 v4 v5 v6 v7 := by
  subst hv
  obtain ⟨a1, c1, e1, hc1, hn1, hr1⟩ := h.l1
  simp only [Value.slice.injEq] at e1
  obtain ⟨rfl, -, rfl⟩ := e1
  obtain ⟨b1, o1, e2, hg1, hb1, hit⟩ := hr1 (by simp [scn])
  simp only [Option.some.injEq, Addr.mk.injEq, and_true] at e2
  obtain ⟨rfl, rfl⟩ := e2
  obtain ⟨cs0, hl0, ⟨w0, w0', rfl, hb0, hco0⟩, hcs0⟩ := hit 0 (by simp [scn])
  obtain ⟨cs1, hl1, ⟨w1, w1', rfl, hbb1, hco1⟩, hcs1⟩ := hit 1 (by simp [scn])
  obtain ⟨cs2, hl2, ⟨w2, w2', rfl, hb2, hco2⟩, hcs2⟩ := hit 2 (by simp [scn])
  obtain ⟨sa, sc, rfl, -⟩ := hco0
  have hs2 : w.cell? ⟨fb, 2, none⟩ = some (.slice sa body.length sc) := hcs0 2 _ rfl
  have H : Hole w fb := ⟨hr, ⟨_, _, _, hs2⟩, ⟨_, hcs1 0 _ rfl⟩⟩
  have hsz : w.heap.size ≤ (w.setCell ⟨fb, 2, none⟩ nv).heap.size := by simp
  obtain ⟨va, vc, rfl, -⟩ := id hn
  have hnew : (w.setCell ⟨fb, 2, none⟩ (.slice va nb.length vc)).cell? ⟨fb, 2, none⟩ = some (.slice va nb.length vc) := by
    obtain ⟨cur, T, hr⟩ := hr
    have h2 : 2 < cur.size := by
      rw [cell_of_row w fb 2 _ _ _ hr] at hs2
      exact (Array.getElem?_eq_some_iff.1 hs2).1
    rw [cell_of_row _ fb 2 _ _ _ (heap_setCell_same w fb 2 cur T _ hr)]
    simp [h2]
  refine ⟨?_, ?_, ?_, ?_, ?_, ?_, ?_, ?_⟩
  · refine LL.kept hsz h.l0 (fun x cs hx => ?_) (fun b o hall i hi cs hl hx hcs j u hu => ?_)
    · obtain ⟨v, e, h1⟩ := hx
      exact ⟨v, e, H.byts h1⟩
    · obtain ⟨v, rfl, h1⟩ := hx
      match j, hu with
      | 0, hu =>
        rw [set_ne H.r, hcs 0 _ hu]
        rintro ⟨rfl, e⟩
        have h3 := hcs 1 _ rfl
        obtain ⟨x, hx⟩ := H.n
        rw [show o + i * 2 + 1 = 3 by omega, hx] at h3
        simp at h3
      | 1, hu =>
        obtain ⟨x, hu'⟩ : ∃ x, Value.int .u8 x = u := ⟨_, by simpa using hu⟩
        exact H.keep (hcs 1 _ hu) (by rw [← hu']; intros; simp)
  · refine ⟨some ⟨fb, 0, none⟩, cap, rfl, hc1, by simp, fun _ => ⟨fb, 0, rfl, hg1, Nat.lt_of_lt_of_le hb1 hsz, fun i hi => ?_⟩⟩
    have hi3 : i < 3 := hi
    match i, hi3 with
    | 0, _ =>
      refine ⟨[.int .u32 0, w0, .slice va nb.length vc], rfl, ⟨w0, _, rfl, H.byts hb0, H.code hn⟩, fun j u hu => ?_⟩
      match j, hu with
      | 0, hu => exact H.far (hcs0 0 _ hu) (by omega)
      | 1, hu => exact H.far (hcs0 1 _ hu) (by omega)
      | 2, hu =>
        have hu' : Value.slice va nb.length vc = u := by simpa using hu
        rw [← hu']; exact hnew
    | 1, _ =>
      refine ⟨_, hl1, ⟨w1, w1', rfl, H.byts hbb1, H.code hco1⟩, fun j u hu => ?_⟩
      have := hcs1 j u hu
      exact H.far this (by omega)
    | 2, _ =>
      refine ⟨_, hl2, ⟨w2, w2', rfl, H.byts hb2, H.code hco2⟩, fun j u hu => ?_⟩
      have := hcs2 j u hu
      exact H.far this (by omega)
  · refine LL.kept hsz h.l2 (fun x cs hx => hx) (fun b o hall i hi cs hl hx hcs j u hu => ?_)
    have hx : cs = _ := hx
    subst hx
    match j, hu with
    | 0, hu => exact H.keep (hcs 0 _ hu) (by simp at hu; rw [← hu]; intros; simp)
    | 1, hu => exact H.keep (hcs 1 _ hu) (by simp at hu; rw [← hu]; intros; simp)
    | 2, hu => exact H.keep (hcs 2 _ hu) (by simp at hu; rw [← hu]; intros; simp)
  · refine LL.kept hsz h.l3 (fun x cs hx => hx) (fun b o hall i hi cs hl hx hcs j u hu => ?_)
    have hx : cs = _ := hx
    subst hx
    match j, hu with
    | 0, hu => exact H.keep (hcs 0 _ hu) (by simp at hu; rw [← hu]; intros; simp)
    | 1, hu => exact H.keep (hcs 1 _ hu) (by simp at hu; rw [← hu]; intros; simp)
    | 2, hu => exact H.keep (hcs 2 _ hu) (by simp at hu; rw [← hu]; intros; simp)
  · refine LL.kept hsz h.l4 (fun x cs hx => ?_) (fun b o hall i hi cs hl hx hcs j u hu => ?_)
    · obtain ⟨ds, e, h1⟩ := hx
      exact ⟨ds, e, H.ins h1⟩
    · obtain ⟨ds, rfl, vb, ve, vl, rfl, -⟩ := hx
      match j, hu with
      | 0, hu => exact H.keep (hcs 0 _ hu) (by simp at hu; rw [← hu]; intros; simp)
      | 1, hu => exact H.keep (hcs 1 _ hu) (by simp at hu; rw [← hu]; intros; simp)
      | 2, hu => exact H.keep (hcs 2 _ hu) (by simp at hu; rw [← hu]; intros; simp)
      | j + 3, hu => exact H.far (hcs (j + 3) _ hu) (by omega)
  · exact LL.kept hsz h.l5 (fun x cs hx => hx) (fun b o hall i hi => by simp [scn] at hi)
  · exact LL.kept hsz h.l6 (fun x cs hx => by obtain ⟨ds, v, e, h1, h2⟩ := hx; exact ⟨ds, v, e, H.ins h1, H.labs h2⟩) (fun b o hall i hi => by simp [scn] at hi)
  · exact LL.kept hsz h.l7 (fun x cs hx => by obtain ⟨ds, v, e, h1, h2⟩ := hx; exact ⟨ds, v, e, H.ins h1, H.byts h2⟩) (fun b o hall i hi => by simp [scn] at hi)
end Vw
end Go.Proofs.YtcpknafaocdjdaaGreatDoor

/- ValidIdle: the instructions that are made; nothing appended, as a step. -/
namespace Go.Proofs.YtcpknafaocdjdaaGreatDoor
open Go.RowKit Go.Shelf
namespace Vw
set_option linter.unusedVariables false
set_option linter.unusedSimpArgs false
open Ex (Ins Lies Lab cnt)
open Gm (Mod Typ Fnc Byts ModL WfM LL TypC FncC LimC GloC ExoC ElmC DatC InsC OwF)
/-- instructions that lie somewhere: their cells -/
theorem items_its {w : World} {g : Nat → Prop} {b : Nat} : ∀ {l : List Ins} {o : Nat}, Ex.Items w g l b o → ∃ ys, Ex.Its w g l ys ∧ (∀ j u, ys[j]? = some u → w.cell? ⟨b, o + j, none⟩ = some u) ∧ ∀ u ∈ ys, u.oneCell' = true := by
  intro l
  induction l with
  | nil => intro o _; exact ⟨[], rfl, by simp, by simp⟩
  | cons i r ih =>
    intro o h
    rw [Ex.Items_cons] at h
    obtain ⟨⟨vb, ve, vl, ⟨c0, c1, c2, c3, c4, c5, c6, c7⟩, h1, h2, h3⟩, h4⟩ := h
    obtain ⟨ys, y1, y2, y3⟩ := ih h4
    have s1 : ∃ a n c, vb = .slice a n c := by obtain ⟨a, c, rfl, -⟩ := h1; exact ⟨_, _, _, rfl⟩
    have s2 : ∃ a n c, ve = .slice a n c := by obtain ⟨a, c, rfl, -⟩ := h2; exact ⟨_, _, _, rfl⟩
    have s3 : ∃ a n c, vl = .slice a n c := by obtain ⟨a, c, rfl, -⟩ := h3; exact ⟨_, _, _, rfl⟩
    refine ⟨Ex.cel i vb ve vl ++ ys, ⟨vb, ve, vl, ys, rfl, h1, h2, h3, y1⟩, fun j u hu => ?_, fun u hu => ?_⟩
    · by_cases hj : j < 8
      · rw [List.getElem?_append_left (by simpa [Ex.cel] using hj)] at hu
        match j, hj, hu with
        | 0, _, hu => simp [Ex.cel] at hu; rw [← hu]; exact c0
        | 1, _, hu => simp [Ex.cel] at hu; rw [← hu]; exact c1
        | 2, _, hu => simp [Ex.cel] at hu; rw [← hu]; exact c2
        | 3, _, hu => simp [Ex.cel] at hu; rw [← hu]; exact c3
        | 4, _, hu => simp [Ex.cel] at hu; rw [← hu]; exact c4
        | 5, _, hu => simp [Ex.cel] at hu; rw [← hu]; exact c5
        | 6, _, hu => simp [Ex.cel] at hu; rw [← hu]; exact c6
        | 7, _, hu => simp [Ex.cel] at hu; rw [← hu]; exact c7
      · rw [List.getElem?_append_right (by simpa [Ex.cel] using hj)] at hu
        have := y2 _ u hu
        rw [show o + 8 + (j - (Ex.cel i vb ve vl).length) = o + j by simp [Ex.cel]; omega] at this
        exact this
    · rcases List.mem_append.1 hu with hu | hu
      · obtain ⟨_, _, _, rfl⟩ := s1; obtain ⟨_, _, _, rfl⟩ := s2; obtain ⟨_, _, _, rfl⟩ := s3
        simp only [Ex.cel, List.mem_cons, List.not_mem_nil, or_false] at hu
        rcases hu with rfl | rfl | rfl | rfl | rfl | rfl | rfl | rfl <;> rfl
      · exact y3 u hu
/-- the cells of the three that stand ahead -/
def c24 : List Value := celI (in0 1 0) ++ (celI (in0 66 5) ++ celI (in0 26 0))
theorem c24_its (w : World) (g : Nat → Prop) {l : List Ins} {ys : List Value} (h : Ex.Its w g l ys) : Ex.Its w g (idl l) (c24 ++ ys) := by
  have e : c24 ++ ys = Ex.cel (in0 1 0) (.slice none 0 0) (.slice none 0 0) (.slice none 0 0) ++ (Ex.cel (in0 66 5) (.slice none 0 0) (.slice none 0 0) (.slice none 0 0) ++ (Ex.cel (in0 26 0) (.slice none 0 0) (.slice none 0 0) (.slice none 0 0) ++ ys)) := by
    simp [c24, celI, Ex.cel, in0]
  rw [e]
  exact ⟨_, _, _, _, rfl, Ex.Code_nil _ _, Ex.Code_nil _ _, Ex.Labs_nil _ _, _, _, _, _, rfl, Ex.Code_nil _ _, Ex.Code_nil _ _, Ex.Labs_nil _ _, _, _, _, _, rfl, Ex.Code_nil _ _, Ex.Code_nil _ _, Ex.Labs_nil _ _, h⟩
/-- a row of them -/
theorem idle_code {w0 w : World} {B g cap n : Nat} {gg : Nat → Prop} {l : List Ins} {ys : List Value} (hn : l.length = n) (h : w.ownsRow B 63 8 (.slice (some ⟨g, 0, none⟩) (3 + n) cap) (3 + n) (c24 ++ ys)) (hi : Ex.Its w0 gg l ys) (hm : Ex.Moves w0 w gg (fun b => b < w.heap.size)) :
    Ex.Code w (fun b => b < w.heap.size) (idl l) (.slice (some ⟨g, 0, none⟩) (3 + n) cap) := by
  subst hn
  have h0 := h
  rcases h.2 with ⟨h1, _⟩ | ⟨g', cap', cur, h1, _, hc, hcap, _⟩
  · cases h1
  · cases h1
    have hlt : g < w.heap.size := (Array.getElem?_eq_some_iff.1 hc).1
    have hl : (idl l).length = 3 + l.length := by simp [idl]; omega
    refine ⟨_, cap, by rw [hl], by omega, by simp, fun _ => ⟨g, 0, rfl, hlt, ?_⟩⟩
    exact Ex.Its.items (c24_its w _ (Ex.Its.move hm hi)) fun j u hj => by rw [Nat.zero_add]; exact Ex.row_cells h0 j u hj
section
variable {P : Program} (w : World)
theorem step_append_zero {ops : Array Oper} {o : Oper} {a : Act} {K : Act → World → Prop} {Q : Exit → Act → World → Prop} {E : Prop} (hgd : o.guard = none) (s x : Operand) (t : TypeId)
    (ho : o.op = .call { callee := .builtin .append, args := #[s, x], argTypes := #[t, t] })
    (e : TypeId) (i : TypeInfo) (ht : P.underlying t = some (.slice e)) (hi : P.info? e = some i)
    (b : Option Addr) (n cap : Nat) (hle : n ≤ cap) (hs : a.eval s = .slice b n cap) (ad : Option Addr) (c : Nat) (hx : a.eval x = .slice ad 0 c)
    (h : K (a.put o.dst (.slice b n cap)) w) :
    if Region.wanted o (yielded ops a.tmps) = true then Oper.wp P o a w K Q else E := by
  have hw : Region.wanted o (yielded ops a.tmps) = true := by simp [Region.wanted, hgd]
  rw [if_pos hw]
  have hr : (Builtin.append_ #[t, t] o.type #[.slice b n cap, .slice ad 0 c]).run P w = .ok (.slice b n cap) w := by
    refine run_append_nothing w t t o.type e i ht hi b n cap hle _ ?_
    cases ad with
    | none => exact Src.ofNil w ht c
    | some ad => exact Src.ofSlice w ht ad 0 c [] (by simp) (by simp) (by simp)
  unfold Oper.wp execOp
  simp only [ho, resolve, invoke, builtin, Sem.run_bind, Sem.run_pure, Result.andThen_ok, List.map_toArray, List.map_cons, List.map_nil, hs, hx, hr]
  exact h
/-- whatever is appended, nothing too -/
theorem step_append_any {ops : Array Oper} {o : Oper} {a : Act} {K : Act → World → Prop} {Q : Exit → Act → World → Prop} {E : Prop} (hgd : o.guard = none) (s x : Operand) (t : TypeId)
    (ho : o.op = .call { callee := .builtin .append, args := #[s, x], argTypes := #[t, t] })
    (base : Nat) (e : TypeId) (i : TypeInfo) (z : Value) (size bytes : Nat) (ht : P.underlying t = some (.slice e)) (hi : P.info? e = some i) (hz : i.zero = some z)
    (hsize : i.size = size) (hby : i.bytes = bytes) (hzs : z.cells.size = size) (hsz : 0 < size)
    (g0 n cap0 : Nat) (xs : List Value) (hs : a.eval s = .slice (some ⟨g0, 0, none⟩) n cap0) (hown : w.ownsRow base e size (.slice (some ⟨g0, 0, none⟩) n cap0) n xs)
    (ad : Option Addr) (m c : Nat) (news : List Value) (hx : a.eval x = .slice ad m c) (hl : news.length = m * size) (hnews : 0 < m → ∃ d, ad = some d ∧ ∀ j u, news[j]? = some u → w.cell? (d.add j) = some u) (h1 : ∀ u ∈ news, u.oneCell' = true)
    (h63 : n + m ≤ maxLen) (hbytes : (n + m) * bytes ≤ 140737488355328) (hbase : base ≤ w.heap.size)
    (h : ∀ g cap w', w'.ownsRow base e size (.slice (some ⟨g, 0, none⟩) (n + m) cap) (n + m) (xs ++ news) → Below base w w' → K (a.put o.dst (.slice (some ⟨g, 0, none⟩) (n + m) cap)) w') :
    if Region.wanted o (yielded ops a.tmps) = true then Oper.wp P o a w K Q else E := by
  by_cases hm : 0 < m
  · obtain ⟨d, rfl, hnw⟩ := hnews hm
    refine step_append_lies w hgd s x t ho base e i z size bytes ht hi hz hsize hby hzs hsz _ n xs hs hown d m c news hx hl hnw h1 hm h63 hbytes hbase w.heap.size rfl ?_
    intro g cap w' k1 k2 k3 k4
    exact h g cap w' k1 ((Below.refl base w).grown k2 hbase fun q hq => (hown.lt q hq).1)
  · obtain rfl : m = 0 := by omega
    have hn0 : news = [] := List.eq_nil_of_length_eq_zero (by omega)
    subst hn0
    have hc : n ≤ cap0 := by
      rcases hown.2 with ⟨h, _⟩ | ⟨_, cap, _, h, _, _, hc, _⟩
      · cases h
      · cases h; exact hc
    refine step_append_zero w hgd s x t ho e i ht hi (some ⟨g0, 0, none⟩) n cap0 hc hs ad c hx ?_
    exact h g0 cap0 w (by rw [List.append_nil]; exact hown) (Below.refl _ _)
end
/-- a body within a block, as it is made -/
theorem blk_code {w w' : World} {g : Nat} {gg : Nat → Prop} {re : Int} {l : List Ins} {v : Value} (hc : Ex.Code w gg l v) (hm : Ex.Moves w w' gg (fun b => b < w'.heap.size)) (hr : w'.heap[g]? = some (.cells #[.int .u8 2, .int .i64 0, .int .u32 0, .int .u32 0, .int .u8 re, v, .slice none 0 0, .slice none 0 0] 63 (0, 0))) :
    Ex.Code w' (fun b => b < w'.heap.size) (blkd re l) (.slice (some ⟨g, 0, none⟩) 1 1) := by
  have hlt : g < w'.heap.size := (Array.getElem?_eq_some_iff.1 hr).1
  refine ⟨_, 1, rfl, Nat.le_refl _, by simp, fun _ => ⟨g, 0, rfl, hlt, ?_⟩⟩
  refine (Ex.Items_cons _ _ _ _ _ _).2 ⟨⟨v, _, _, ⟨?_, ?_, ?_, ?_, ?_, ?_, ?_, ?_⟩, hc.move hm, Ex.Code_nil _ _, Ex.Labs_nil _ _⟩, Ex.Items_nil _ _ _ _⟩ <;> (rw [cell_of_row w' _ _ _ _ _ hr]; rfl)
theorem idl_ok {l : List Ins} (h1 : Ex.Wf l) (h2 : Ex.Sz 1048576 l) : Ex.Wf (idl l) ∧ Ex.Sz 1048576 (idl l) ∧ cnt (idl l) = 3 + cnt l := by
  refine ⟨(Ex.Wf_cons _ _).2 ⟨in0_wf 1 0 (by decide) (by decide), (Ex.Wf_cons _ _).2 ⟨in0_wf 66 5 (by decide) (by decide), (Ex.Wf_cons _ _).2 ⟨in0_wf 26 0 (by decide) (by decide), h1⟩⟩⟩, (Ex.Sz_cons _ _ _).2 ⟨in0_sz _ _, (Ex.Sz_cons _ _ _).2 ⟨in0_sz _ _, (Ex.Sz_cons _ _ _).2 ⟨in0_sz _ _, h2⟩⟩⟩, ?_⟩
  unfold idl
  rw [Ex.cnt_cons, Ex.cnt_cons, Ex.cnt_cons, show (in0 1 0).body = [] from rfl, show (in0 1 0).els = [] from rfl, show (in0 66 5).body = [] from rfl, show (in0 66 5).els = [] from rfl, show (in0 26 0).body = [] from rfl, show (in0 26 0).els = [] from rfl, Ex.cnt_nil]; omega
theorem blkd_ok {l : List Ins} {re : Int} (hre : 0 ≤ re ∧ re ≤ 255) (h1 : Ex.Wf l) (h2 : Ex.Sz 1048576 l) (h3 : l.length ≤ 1048576) : Ex.Wf (blkd re l) ∧ Ex.Sz 1048576 (blkd re l) ∧ cnt (blkd re l) = 1 + cnt l := by
  refine ⟨(Ex.Wf_cons _ _).2 ⟨?_, Ex.Wf_nil⟩, (Ex.Sz_cons _ _ _).2 ⟨⟨h3, Nat.zero_le _, Nat.zero_le _, h2, Ex.Sz_nil _⟩, Ex.Sz_nil _⟩, ?_⟩
  · refine ⟨?_, h1, Ex.Wf_nil⟩
    unfold Ex.fit
    simp
    exact hre
  · unfold blkd; rw [Ex.cnt_cons]; simp [Ex.cnt_nil]
end Vw
end Go.Proofs.YtcpknafaocdjdaaGreatDoor

/- ValidIdle: its walk. By mkid.py. -/
namespace Go.Proofs.YtcpknafaocdjdaaGreatDoor
open Go.RowKit Go.Shelf
namespace Vw
set_option linter.unusedVariables false
set_option linter.unusedSimpArgs false
open Ex (Ins Lies Lab cnt)
open Gm (Mod Typ Fnc Byts ModL WfM LL TypC FncC SzM OwF)
/-- a module in its box -/
def MB (W : World) (B : Nat) (T : TypeId) (M : Mod) (v0 v1 v2 v3 v4 v5 v6 v7 : Value) : Prop := W.heap[B]? = some (.cells #[v0, v1, v2, v3, v4, v5, v6, v7] T (0, 0)) ∧ ModL W (fun b => b < W.heap.size) M v0 v1 v2 v3 v4 v5 v6 v7
theorem MB.below {W W' : World} {B : Nat} {T : TypeId} {M : Mod} {v0 v1 v2 v3 v4 v5 v6 v7 : Value} (h : MB W B T M v0 v1 v2 v3 v4 v5 v6 v7) (hb : Below W.heap.size W W') : MB W' B T M v0 v1 v2 v3 v4 v5 v6 v7 :=
  ⟨(hb.block _ (Array.getElem?_eq_some_iff.1 h.1).1).trans h.1, h.2.moved (Gm.Mv.below hb (fun k hk _ => Nat.lt_of_lt_of_le hk hb.size)) hb.size⟩
theorem MB.lt {W : World} {B : Nat} {T : TypeId} {M : Mod} {v0 v1 v2 v3 v4 v5 v6 v7 : Value} (h : MB W B T M v0 v1 v2 v3 v4 v5 v6 v7) : B < W.heap.size := (Array.getElem?_eq_some_iff.1 h.1).1
theorem MB.new {w : World} {T : TypeId} {M : Mod} {v0 v1 v2 v3 v4 v5 v6 v7 : Value} (h : ModL w (fun b => b < w.heap.size) M v0 v1 v2 v3 v4 v5 v6 v7) : MB (w.alloc (.cells #[v0, v1, v2, v3, v4, v5, v6, v7] T)) w.heap.size T M v0 v1 v2 v3 v4 v5 v6 v7 :=
  ⟨heap_alloc_new _ _, h.moved (Gm.Mv.below (one_al _ _) (fun k hk _ => Nat.lt_of_lt_of_le hk (one_al _ _).size)) (one_al _ _).size⟩
/-- a body written into its row of functions -/
theorem MB.set {W : World} {B : Nat} {T : TypeId} {ps : List Int} {re : Int} {body nb : List Ins} {v0 v2 v3 v4 v5 v6 v7 nv : Value} {fb cap : Nat} (h : MB W B T (scn ps re body) v0 (.slice (some ⟨fb, 0, none⟩) 3 cap) v2 v3 v4 v5 v6 v7) (hne : B ≠ fb) (hr : ∃ cur T, W.heap[fb]? = some (.cells cur T (0, 0))) (hn : Ex.Code W (fun b => b < W.heap.size) nb nv) :
    MB (W.setCell ⟨fb, 2, none⟩ nv) B T (scn ps re nb) v0 (.slice (some ⟨fb, 0, none⟩) 3 cap) v2 v3 v4 v5 v6 v7 :=
  ⟨(heap_setCell_other W ⟨fb, 2, none⟩ B _ hne).trans h.1, by have := scn_set h.2 hr rfl hn; simpa using this⟩
theorem scn_sl {W : World} {g : Nat → Prop} {ps : List Int} {re : Int} {body : List Ins} {v0 v1 v2 v3 v4 v5 v6 v7 : Value} (h : ModL W g (scn ps re body) v0 v1 v2 v3 v4 v5 v6 v7) :
    (∃ a c, v0 = .slice a 3 c) ∧ (∃ a c, v1 = .slice a 3 c) ∧ (∃ a c, v2 = .slice a 1 c) ∧ (∃ a c, v3 = .slice a 1 c) ∧ (∃ a c, v4 = .slice a 2 c) ∧ (∃ a c, v5 = .slice a 0 c) ∧ (∃ a c, v6 = .slice a 0 c) ∧ (∃ a c, v7 = .slice a 0 c) :=
  ⟨h.l0.sl, h.l1.sl, h.l2.sl, h.l3.sl, h.l4.sl, h.l5.sl, h.l6.sl, h.l7.sl⟩
theorem own_row {W : World} {B : Nat} {G : Nat → Prop} {a : Option Addr} {c : Nat} (h : OwF B 3 (.slice a 3 c) W G) : ∃ fa, a = some ⟨fa, 0, none⟩ ∧ B ≤ fa ∧ fa < W.heap.size ∧ ∃ cur T, W.heap[fa]? = some (.cells cur T (0, 0)) := by
  obtain ⟨⟨xs, ho⟩, -⟩ := h
  rcases ho.2 with ⟨h1, _⟩ | ⟨g, cap, cur, h1, h2, h3, _⟩
  · cases h1
  · simp only [Value.slice.injEq] at h1
    exact ⟨g, h1.1, h2, (Array.getElem?_eq_some_iff.1 h3).1, cur, _, h3⟩
theorem scn_body {W : World} {g : Nat → Prop} {ps : List Int} {re : Int} {body : List Ins} {v0 v2 v3 v4 v5 v6 v7 : Value} {fa c : Nat} (h : ModL W g (scn ps re body) v0 (.slice (some ⟨fa, 0, none⟩) 3 c) v2 v3 v4 v5 v6 v7) :
    ∃ ba bc, W.cell? ⟨fa, 2, none⟩ = some (.slice ba body.length bc) ∧ Ex.Code W g body (.slice ba body.length bc) := by
  obtain ⟨a1, c1, e1, -, -, hr1⟩ := h.l1
  simp only [Value.slice.injEq] at e1
  obtain ⟨rfl, -, rfl⟩ := e1
  obtain ⟨b1, o1, e2, -, -, hit⟩ := hr1 (by simp [scn])
  simp only [Option.some.injEq, Addr.mk.injEq, and_true] at e2
  obtain ⟨rfl, rfl⟩ := e2
  obtain ⟨cs0, -, ⟨w0, w0', rfl, -, hco⟩, hcs0⟩ := hit 0 (by simp [scn])
  have hco2 := hco
  obtain ⟨sa, sc, rfl, -⟩ := hco
  exact ⟨sa, sc, hcs0 2 _ rfl, hco2⟩
theorem code_up {W W' : World} {l : List Ins} {v : Value} (hb : Below W.heap.size W W') (h : Ex.Code W (fun b => b < W.heap.size) l v) : Ex.Code W' (fun b => b < W'.heap.size) l v :=
  h.move fun k hk _ hg => ⟨Nat.lt_of_lt_of_le hk hb.size, hb.block k hk⟩
theorem hgN_pos (M : Mod) (f : Int) : 0 ≤ hgN M f := by
  unfold hgN; split <;> omega
theorem infoI9 : (Tryz.prog.info? 63).map (fun i => (i.zero, i.size, i.bytes)) = some (some (.agg #[.int .u8 0, .int .i64 0, .int .u32 0, .int .u32 0, .int .u8 0, .slice none 0 0, .slice none 0 0, .slice none 0 0]), 8, 104) := by kernel_rfl
theorem c24_one : ∀ u ∈ c24, u.oneCell' = true := by
  intro u hu
  simp [c24, celI, in0] at hu
  repeat' (first | (rcases hu with rfl | hu) | (subst hu))
  all_goals rfl
theorem c24_len : c24.length = 24 := rfl
theorem news_at {w : World} {B : Nat} {T : TypeId} {cs : Array Value} (h : w.heap[B]? = some (.cells cs T (0, 0))) : ∀ j u, cs.toList[j]? = some u → w.cell? ((⟨B, 0, none⟩ : Addr).add j) = some u := World.news_of_block h
set_option maxRecDepth 100000 in
set_option maxHeartbeats 12800000 in
theorem idle_walk {w : World} {ps : List Int} {re : Int} {body : List Ins} {pa ba : Option Addr} {pc bn bc : Nat} (hT : Tb w) (hE : ErrT w) (hP : Lies (fun _ => True) ps.length (Byts w ps) (.slice pa ps.length pc)) (hps : ∀ z ∈ ps, 0 ≤ z ∧ z ≤ 255) (hpl : ps.length ≤ 1048576) (hre : 0 ≤ re ∧ re ≤ 255) (hC : Ex.Code w (fun _ => True) body (.slice ba bn bc)) (hwf : Ex.Wf body) (hwt : Ex.wt body ≤ 1048576) :
    Calls Tryz.prog 5 #[.slice pa ps.length pc, .int .u8 re, .slice ba bn bc] w fun e w' => e = .returned (.bool true) ∧ Below w.heap.size w w' := by
  have hPg : Lies (fun b => b < w.heap.size) ps.length (Byts w ps) (.slice pa ps.length pc) := Byts.moved (fun k hk _ => ⟨hk, rfl⟩) hP
  have hbn : bn = body.length := by obtain ⟨_, _, e, _⟩ := hC; simp only [Value.slice.injEq] at e; exact e.2.1
  subst hbn
  have hCg : Ex.Code w (fun b => b < w.heap.size) body (.slice ba body.length bc) := hC.move (fun k hk _ _ => ⟨hk, rfl⟩)
  have hsz : Ex.Sz 1048576 body := Ex.Sz_wt body hwt
  have hcn : cnt body ≤ 1048576 := Nat.le_trans (Ex.cnt_wt body) hwt
  have hln : body.length ≤ 1048576 := Nat.le_trans (Ex.wt_len body) hwt
  have i1 := idl_ok hwf hsz
  have i2 := blkd_ok hre hwf hsz hln
  have hm0 : SzM (scn ps re body) := scn_szm hps hpl hsz hln
  have hbo : ∀ bb, Ex.Wf bb → Ex.Sz 1048576 bb → cnt bb ≤ 1048580 → ∀ W, Below w.heap.size w W → ∀ B T u0 u1 u2 u3 u4 u5 u6 u7, MB W B T (scn ps re bb) u0 u1 u2 u3 u4 u5 u6 u7 →
      (Calls Tryz.prog 14 #[.agg #[u0, u1, u2, u3, u4, u5, u6, u7], .int .i64 0] W fun e w' => e = .returned (errV (hgE (scn ps re bb) 0)) ∧ Below W.heap.size W w') ∧
      (Calls Tryz.prog 15 #[.agg #[u0, u1, u2, u3, u4, u5, u6, u7], .int .i64 0] W fun e w' => e = .returned (.tuple #[.int .i64 (hgN (scn ps re bb) 0), errV (hgE (scn ps re bb) 0)]) ∧ Below W.heap.size W w') := fun bb h1 h2 h3 W hW B T u0 u1 u2 u3 u4 u5 u6 u7 h =>
    ⟨body_any ciOk h.2 (scn_wf hps hre h1) (hT.below hW) (scn_szv hpl h1 h2 (by omega)) 0, height_any ciOk h.2 (scn_wf hps hre h1) (hT.below hW) (scn_szv hpl h1 h2 (by omega)) 0⟩
  have HB0 := hide (hbo body hwf hsz (by omega)); have HB1 := hide (hbo (idl body) i1.1 i1.2.1 (by omega)); have HB2 := hide (hbo (blkd re body) i2.1 i2.2.1 (by omega))
  have HSc := hide (scene_any (w := w) re hPg hCg)
  have HBig := hide (fun W B T u0 u1 u2 u3 u4 u5 u6 u7 (h : MB W B T (scn ps re body) u0 u1 u2 u3 u4 u5 u6 u7) => Gm.big_any (scn ps re body) _ u0 u1 u2 u3 u4 u5 u6 u7 W h.2 hm0)
  have HGm := hide (fun W B T u0 u1 u2 u3 u4 u5 u6 u7 (h : MB W B T (scn ps re body) u0 u1 u2 u3 u4 u5 u6 u7) => Gm.giveModule_own (scn ps re body) (fun b => b < W.heap.size) u0 u1 u2 u3 u4 u5 u6 u7 W (fun _ hk => hk) h.2 hm0)
  have HNu := hide (fun k W (h : Below w.heap.size w W) => num_any k W (hE.below (Nat.le_refl _) h))
  have HSu := hide (fun W (h : Below w.heap.size w W) => sure08 W (hT.below h) (hE.below (Nat.le_refl _) h))
  have HIE := hide (idle_E ps re body)
  have HIN := hide (fun h => idle_N (ps := ps) (re := re) (body := body) h)
  have HBN := hide (fun h => blk_EN (ps := ps) (re := re) (body := body) h)
  obtain ⟨i0, hi, hz0, hz1, hz2⟩ := info_parts infoI9
  have HI := hide (And.intro hi (And.intro hz0 (And.intro hz1 hz2)))
  clear hP hC hPg hCg hsz hcn i1 i2 hm0 hbo hT hE hps hpl hwf hwt hi hz0 hz1 hz2
  have HLn := hide hln; clear hln
  generalize ps.length = pl at *
  obtain ⟨n, hnl⟩ : ∃ n, body.length = n := ⟨_, rfl⟩
  rw [hnl] at HSc ⊢
  have HNl := hide hnl
  clear hnl
  have HBw := hide (Below.refl w.heap.size w)
  go_enter Tryz.func5, Tryz.ntmps5
  go_wp2_with fail
  refine (unhide HSc).mono ?_
  rintro e w1 ⟨⟨v0, v1, v2, v3, v4, v5, v6, v7, rfl, hml⟩, hb1⟩
  obtain ⟨⟨xa0, xk0, rfl⟩, ⟨xa1, xk1, rfl⟩, ⟨xa2, xk2, rfl⟩, ⟨xa3, xk3, rfl⟩, ⟨xa4, xk4, rfl⟩, ⟨xa5, xk5, rfl⟩, ⟨xa6, xk6, rfl⟩, ⟨xa7, xk7, rfl⟩⟩ := scn_sl hml
  have HBw := hide hb1
  clear hb1 HSc
  obtain ⟨W1, hW1⟩ : ∃ W, w1.alloc (.cells #[.slice xa0 3 xk0, .slice xa1 3 xk1, .slice xa2 1 xk2, .slice xa3 1 xk3, .slice xa4 2 xk4, .slice xa5 0 xk5, .slice xa6 0 xk6, .slice xa7 0 xk7] 30) = W := ⟨_, rfl⟩
  have hnW1 : Below w1.heap.size w1 W1 := by rw [← hW1]; exact one_al _ _
  have MBm : Hid (MB W1 w1.heap.size 30 (scn ps re body) (.slice xa0 3 xk0) (.slice xa1 3 xk1) (.slice xa2 1 xk2) (.slice xa3 1 xk3) (.slice xa4 2 xk4) (.slice xa5 0 xk5) (.slice xa6 0 xk6) (.slice xa7 0 xk7)) := hide (by rw [← hW1]; exact MB.new hml)
  clear hml
  replace HBw := hide (Below.on0 (unhide HBw) hnW1 (unhide HBw).size)
  have HWW1 := hide hW1
  clear hnW1 hW1
  go_upto_region 2 with fail
  rw [unhide HWW1]
  clear HWW1
  generalize hB1 : w1.heap.size = B1 at *

  clear hB1
  obtain ⟨m0, m1, m2, m3, m4, m5, m6, m7⟩ := mbox (unhide MBm).1
  go_wp2_with fail
  refine (unhide HBig W1 B1 30 _ _ _ _ _ _ _ _ (unhide MBm)).mono ?_
  rintro e w2 ⟨⟨bb, rfl⟩, hb2⟩
  clear m0 m1 m2 m3 m4 m5 m6 m7
  replace MBm := hide ((unhide MBm).below hb2); replace HBw := hide (Below.on0 (unhide HBw) hb2 (unhide HBw).size)
  clear hb2
  cases bb with
  | true =>
    go_wp2_with fail
    refine (unhide HSu w2 (unhide HBw)).mono ?_
    rintro e w3 ⟨rfl, hb3⟩
    have HBw := hide (Below.on0 (unhide HBw) hb3 (unhide HBw).size)
    clear hb3
    go_wp2
    go_ret
    exact ⟨rfl, unhide HBw⟩
  | false =>
  obtain ⟨m0, m1, m2, m3, m4, m5, m6, m7⟩ := mbox (unhide MBm).1
  go_wp2_with fail
  refine (unhide HGm w2 B1 30 _ _ _ _ _ _ _ _ (unhide MBm)).mono ?_
  rintro e w3 ⟨v0, v1, v2, v3, v4, v5, v6, v7, rfl, hml0, hof, hbg⟩
  have hml : ModL w3 (fun b => b < w3.heap.size) (scn ps re body) v0 v1 v2 v3 v4 v5 v6 v7 := hml0.moved (fun k hk _ => ⟨hk, rfl⟩) (Nat.le_refl _)
  obtain ⟨⟨ya0, yk0, rfl⟩, ⟨ya1, yk1, rfl⟩, ⟨ya2, yk2, rfl⟩, ⟨ya3, yk3, rfl⟩, ⟨ya4, yk4, rfl⟩, ⟨ya5, yk5, rfl⟩, ⟨ya6, yk6, rfl⟩, ⟨ya7, yk7, rfl⟩⟩ := scn_sl hml
  obtain ⟨fa, rfl, hfa1, hfa2, hfa3⟩ := own_row hof
  have HFfa := hide (And.intro hfa1 (And.intro hfa2 hfa3))
  clear hml0 hof hfa1 hfa2 hfa3 m0 m1 m2 m3 m4 m5 m6 m7

  replace MBm := hide ((unhide MBm).below hbg); replace HBw := hide (Below.on0 (unhide HBw) hbg (unhide HBw).size)
  clear hbg
  obtain ⟨W3, hW3⟩ : ∃ W, w3.alloc (.cells #[.slice ya0 3 yk0, .slice (some ⟨fa, 0, none⟩) 3 yk1, .slice ya2 1 yk2, .slice ya3 1 yk3, .slice ya4 2 yk4, .slice ya5 0 yk5, .slice ya6 0 yk6, .slice ya7 0 yk7] 41) = W := ⟨_, rfl⟩
  have hnW3 : Below w3.heap.size w3 W3 := by rw [← hW3]; exact one_al _ _
  have MBa : Hid (MB W3 w3.heap.size 41 (scn ps re body) (.slice ya0 3 yk0) (.slice (some ⟨fa, 0, none⟩) 3 yk1) (.slice ya2 1 yk2) (.slice ya3 1 yk3) (.slice ya4 2 yk4) (.slice ya5 0 yk5) (.slice ya6 0 yk6) (.slice ya7 0 yk7)) := hide (by rw [← hW3]; exact MB.new hml)
  clear hml
  replace MBm := hide ((unhide MBm).below hnW3); replace HBw := hide (Below.on0 (unhide HBw) hnW3 (unhide HBw).size)
  have HWW3 := hide hW3
  clear hnW3 hW3
  go_upto_region 5 with fail
  rw [unhide HWW3]
  clear HWW3
  generalize hB3 : w3.heap.size = B3 at *

  clear hB3
  obtain ⟨c0, c1, c2, c3, c4, c5, c6, c7⟩ := mbox (unhide MBa).1
  go_wp2_with fail
  refine (unhide HB0 W3 (unhide HBw) B3 41 _ _ _ _ _ _ _ _ (unhide MBa)).1.mono ?_
  rintro e w4 ⟨rfl, hb4⟩
  clear c0 c1 c2 c3 c4 c5 c6 c7
  replace MBm := hide ((unhide MBm).below hb4); replace MBa := hide ((unhide MBa).below hb4); replace HBw := hide (Below.on0 (unhide HBw) hb4 (unhide HBw).size)
  clear hb4
  generalize hE0 : hgE (scn ps re body) 0 = E0 at *
  have HE0 := hide hE0; clear hE0
  go_wp2_with fail
  refine (unhide HNu E0 w4 (unhide HBw)).mono ?_
  rintro e w5 ⟨rfl, hb5⟩
  replace MBm := hide ((unhide MBm).below hb5); replace MBa := hide ((unhide MBa).below hb5); replace HBw := hide (Below.on0 (unhide HBw) hb5 (unhide HBw).size)
  clear hb5
  go_upto_region 7 with fail
  obtain ⟨wa, wc, hcb, hco⟩ := scn_body (unhide MBa).2
  rw [unhide HNl] at hcb hco
  have HCo := hide hco
  obtain ⟨c0, c1, c2, c3, c4, c5, c6, c7⟩ := mbox (unhide MBa).1
  have hS0 : w5.drew.cell? ⟨B3, 1, none⟩ = some (.slice (some ⟨fa, 0, none⟩) 3 yk1) ∧ w5.drew.cell? ⟨fa, 2, none⟩ = some (.slice wa n wc) := ⟨c1, hcb⟩
  have l3 : B3 < w5.heap.size := (unhide MBa).lt
  have lfa : fa < w5.heap.size := World.block_lt_of_cell? w5 _ hcb
  clear hco c0 c1 c2 c3 c4 c5 c6 c7
  refine wp_region_held_drew (S := fun w' => w'.cell? ⟨B3, 1, none⟩ = some (.slice (some ⟨fa, 0, none⟩) 3 yk1) ∧ w'.cell? ⟨fa, 2, none⟩ = some (.slice wa n wc)) (by kernel_rfl) hS0 (fun _ => ?_)
  refine wpAnyH_take (i := 0) (oi := _) (v := ?v0_0) rfl (by kernel_rfl) (by kernel_rfl) (by kernel_rfl) (fun _ _ _ h => h) (Or.inl ⟨by kernel_rfl, ?y0_0⟩) hS0 ?_
  case y0_0 => intro wx hSw; obtain ⟨s1, s2⟩ := hSw; go_simp; first | done | rfl
  (try simp only [List.getElem_toArray, List.getElem_cons_succ, List.getElem_cons_zero, Act.put, List.setIfInBounds_toArray, List.set_cons_zero, List.set_cons_succ])
  refine wpAnyH_take (i := 1) (oi := _) (v := ?v1_1) rfl (by kernel_rfl) (by kernel_rfl) (by kernel_rfl) (fun _ _ _ h => h) (Or.inl ⟨by kernel_rfl, ?y1_1⟩) hS0 ?_
  case y1_1 => intro wx hSw; obtain ⟨s1, s2⟩ := hSw; go_simp; first | done | rfl
  (try simp only [List.getElem_toArray, List.getElem_cons_succ, List.getElem_cons_zero, Act.put, List.setIfInBounds_toArray, List.set_cons_zero, List.set_cons_succ])
  refine wpAnyH_take (i := 2) (oi := _) (v := ?v2_2) rfl (by kernel_rfl) (by kernel_rfl) (by kernel_rfl) (fun _ _ _ h => h) (Or.inl ⟨by kernel_rfl, ?y2_2⟩) hS0 ?_
  case y2_2 => intro wx hSw; obtain ⟨s1, s2⟩ := hSw; go_simp; first | done | rfl
  (try simp only [List.getElem_toArray, List.getElem_cons_succ, List.getElem_cons_zero, Act.put, List.setIfInBounds_toArray, List.set_cons_zero, List.set_cons_succ])
  refine wpAnyH_take (i := 3) (oi := _) (v := ?v3_3) rfl (by kernel_rfl) (by kernel_rfl) (by kernel_rfl) (fun _ _ _ h => h) (Or.inl ⟨by kernel_rfl, ?y3_3⟩) hS0 ?_
  case y3_3 => intro wx hSw; obtain ⟨s1, s2⟩ := hSw; go_simp; first | done | rfl
  (try simp only [List.getElem_toArray, List.getElem_cons_succ, List.getElem_cons_zero, Act.put, List.setIfInBounds_toArray, List.set_cons_zero, List.set_cons_succ])
  refine wpAnyH_take (i := 6) (oi := _) (v := ?v6_4) rfl (by kernel_rfl) (by kernel_rfl) (by kernel_rfl) (fun _ _ _ h => h) (Or.inl ⟨by kernel_rfl, ?y6_4⟩) hS0 ?_
  case y6_4 => intro wx hSw; obtain ⟨s1, s2⟩ := hSw; go_simp; first | done | rfl
  (try simp only [List.getElem_toArray, List.getElem_cons_succ, List.getElem_cons_zero, Act.put, List.setIfInBounds_toArray, List.set_cons_zero, List.set_cons_succ])
  refine wpAnyH_take (i := 7) (oi := _) (v := ?v7_5) rfl (by kernel_rfl) (by kernel_rfl) (by kernel_rfl) (fun _ _ _ h => h) (Or.inl ⟨by kernel_rfl, ?y7_5⟩) hS0 ?_
  case y7_5 => intro wx hSw; obtain ⟨s1, s2⟩ := hSw; go_simp; first | done | rfl
  (try simp only [List.getElem_toArray, List.getElem_cons_succ, List.getElem_cons_zero, Act.put, List.setIfInBounds_toArray, List.set_cons_zero, List.set_cons_succ])
  refine wpAnyH_take (i := 8) (oi := _) (v := ?v8_6) rfl (by kernel_rfl) (by kernel_rfl) (by kernel_rfl) (fun _ _ _ h => h) (Or.inl ⟨by kernel_rfl, ?y8_6⟩) hS0 ?_
  case y8_6 => intro wx hSw; obtain ⟨s1, s2⟩ := hSw; go_simp; first | done | rfl
  (try simp only [List.getElem_toArray, List.getElem_cons_succ, List.getElem_cons_zero, Act.put, List.setIfInBounds_toArray, List.set_cons_zero, List.set_cons_succ])
  refine wpAnyH_take (i := 9) (oi := _) (v := ?v9_7) rfl (by kernel_rfl) (by kernel_rfl) (by kernel_rfl) (fun _ _ _ h => h) (Or.inl ⟨by kernel_rfl, ?y9_7⟩) hS0 ?_
  case y9_7 => intro wx hSw; obtain ⟨s1, s2⟩ := hSw; go_simp; first | done | rfl
  (try simp only [List.getElem_toArray, List.getElem_cons_succ, List.getElem_cons_zero, Act.put, List.setIfInBounds_toArray, List.set_cons_zero, List.set_cons_succ])
  refine wpAnyH_take (i := 10) (oi := _) (v := ?v10_8) rfl (by kernel_rfl) (by kernel_rfl) (by kernel_rfl) (fun _ _ _ h => h) (Or.inl ⟨by kernel_rfl, ?y10_8⟩) hS0 ?_
  case y10_8 => intro wx hSw; obtain ⟨s1, s2⟩ := hSw; go_simp; first | done | rfl
  (try simp only [List.getElem_toArray, List.getElem_cons_succ, List.getElem_cons_zero, Act.put, List.setIfInBounds_toArray, List.set_cons_zero, List.set_cons_succ])
  refine wpAnyH_ready (rs := [4]) (by kernel_rfl) (by simp) ?_
  refine AllReadyH.cons rfl (fun K hK => ?_) AllReadyH.nil
  obtain ⟨W6, hW6⟩ : ∃ W, (w5.alloc (.cells #[.int .u8 1, .int .i64 0, .int .u32 0, .int .u32 0, .int .u8 0, .slice none 0 0, .slice none 0 0, .slice none 0 0, .int .u8 66, .int .i64 5, .int .u32 0, .int .u32 0, .int .u8 0, .slice none 0 0, .slice none 0 0, .slice none 0 0, .int .u8 26, .int .i64 0, .int .u32 0, .int .u32 0, .int .u8 0, .slice none 0 0, .slice none 0 0, .slice none 0 0] 63)).drew = W := ⟨_, rfl⟩
  have hr6 : W6.heap[w5.heap.size]? = some (.cells #[.int .u8 1, .int .i64 0, .int .u32 0, .int .u32 0, .int .u8 0, .slice none 0 0, .slice none 0 0, .slice none 0 0, .int .u8 66, .int .i64 5, .int .u32 0, .int .u32 0, .int .u8 0, .slice none 0 0, .slice none 0 0, .slice none 0 0, .int .u8 26, .int .i64 0, .int .u32 0, .int .u32 0, .int .u8 0, .slice none 0 0, .slice none 0 0, .slice none 0 0] 63 (0, 0)) := by rw [← hW6]; exact heap_alloc_new w5 _
  have hb6 : Below w5.heap.size w5 W6 := by rw [← hW6]; exact Gm.ad_below9 _ _
  have hz6 : W6.heap.size = w5.heap.size + 1 := by rw [← hW6]; simp
  have HW6 := hide hW6; have HR6 := hide hr6; have Hb6 := hide hb6; have HZ6 := hide hz6
  clear hW6 hr6 hb6 hz6
  go_simp
  rw [unhide HW6]
  clear HW6
  have hS6 : W6.cell? ⟨B3, 1, none⟩ = some (.slice (some ⟨fa, 0, none⟩) 3 yk1) ∧ W6.cell? ⟨fa, 2, none⟩ = some (.slice wa n wc) := ⟨((unhide Hb6).cell (p := ⟨B3, 1, none⟩) l3).trans hS0.1, ((unhide Hb6).cell (p := ⟨fa, 2, none⟩) lfa).trans hS0.2⟩
  refine hK.out _ _ hS6 (fun _ => ?_)
  clear hK
  (try simp only [List.getElem_toArray, List.getElem_cons_succ, List.getElem_cons_zero, Act.put, List.setIfInBounds_toArray, List.set_cons_zero, List.set_cons_succ])
  refine wpAnyH_ready (rs := [5]) (by kernel_rfl) (by simp) ?_
  refine AllReadyH.cons rfl (fun K hK => ?_) AllReadyH.nil
  obtain ⟨hi, hz0, hz1, hz2⟩ := unhide HI
  refine step_append_lies _ rfl (.tmp 32) (.tmp 36) 58 rfl w5.heap.size 63 i0 (.agg #[.int .u8 0, .int .i64 0, .int .u32 0, .int .u32 0, .int .u8 0, .slice none 0 0, .slice none 0 0, .slice none 0 0]) 8 104 Tryz.underlying58 hi hz0 hz1 hz2 rfl (by decide) (.slice none 0 0) 0 [] rfl (World.ownsRow_nil _ _ _ _) ⟨w5.heap.size, 0, none⟩ 3 3 c24 rfl rfl (news_at (unhide HR6)) c24_one (by omega) (by unfold maxLen; omega) (by omega) (unhide Hb6).size (w5.heap.size + 1) (unhide HZ6) ?_
  intro g7 k7 w7 hown7 hgr7 hat7 hlt7
  have hb7 : Below w5.heap.size w5 w7 := (unhide Hb6).grown hgr7 (unhide Hb6).size (fun q hq => by cases hq)
  have hg7 : w5.heap.size ≤ g7 := by
    rcases hat7 with h | h
    · cases h
    · omega
  rw [List.nil_append, Nat.zero_add] at hown7
  have HO7 := hide hown7; have Hb7 := hide hb7; have HG7 := hide (And.intro hg7 hlt7)
  clear hgr7 hat7 hown7 hb7 hg7 hlt7
  have hS7 : w7.cell? ⟨B3, 1, none⟩ = some (.slice (some ⟨fa, 0, none⟩) 3 yk1) ∧ w7.cell? ⟨fa, 2, none⟩ = some (.slice wa n wc) := ⟨((unhide Hb7).cell (p := ⟨B3, 1, none⟩) l3).trans hS0.1, ((unhide Hb7).cell (p := ⟨fa, 2, none⟩) lfa).trans hS0.2⟩
  refine hK.out _ _ hS7 (fun _ => ?_)
  clear hK
  try rw [Nat.zero_add]
  (try simp only [List.getElem_toArray, List.getElem_cons_succ, List.getElem_cons_zero, Act.put, List.setIfInBounds_toArray, List.set_cons_zero, List.set_cons_succ])
  have hIt : ∃ ys, Ex.Its w5 (fun b => b < w5.heap.size) body ys ∧ (0 < n → ∃ b o, wa = some ⟨b, o, none⟩ ∧ b < w5.heap.size ∧ ∀ j u, ys[j]? = some u → w5.cell? ⟨b, o + j, none⟩ = some u) ∧ (∀ u ∈ ys, u.oneCell' = true) ∧ (n = 0 → ys = []) := by
    obtain ⟨a0, q0, e0, -, -, hq⟩ := unhide HCo
    simp only [Value.slice.injEq] at e0
    by_cases h0 : 0 < n
    · obtain ⟨b, o, rfl, hbl, hit⟩ := hq (by rw [unhide HNl]; exact h0)
      obtain ⟨ys, y1, y2, y3⟩ := items_its hit
      exact ⟨ys, y1, fun _ => ⟨b, o, e0.1, hbl, y2⟩, y3, fun h => absurd h (by omega)⟩
    · have hb : body = [] := List.eq_nil_of_length_eq_zero (by rw [unhide HNl]; omega)
      refine ⟨[], ?_, fun h => absurd h h0, by simp, fun _ => rfl⟩
      rw [hb]; rfl
  obtain ⟨ys, hy1, hy2, hy3, hy4⟩ := hIt
  have hyl : ys.length = n * 8 := by rw [Ex.Its.len hy1, unhide HNl]
  have HY1 := hide hy1; have HY2 := hide hy2; have HY3 := hide hy3; have HY4 := hide hy4; have HYl := hide hyl
  clear hy1 hy2 hy3 hy4 hyl HCo
  refine wpAnyH_ready (rs := [11]) (by kernel_rfl) (by simp) ?_
  refine AllReadyH.cons rfl (fun K hK => ?_) AllReadyH.nil
  refine step_append_any w7 rfl (.tmp 37) (.tmp 42) 58 rfl w5.heap.size 63 i0 (.agg #[.int .u8 0, .int .i64 0, .int .u32 0, .int .u32 0, .int .u8 0, .slice none 0 0, .slice none 0 0, .slice none 0 0]) 8 104 Tryz.underlying58 hi hz0 hz1 hz2 rfl (by decide) g7 3 k7 c24 rfl (unhide HO7) wa n wc ys rfl (unhide HYl) (fun h0 => by
    obtain ⟨yb, yo, hwa, hyb, hyc⟩ := unhide HY2 h0
    exact ⟨_, hwa, fun j u hu => by rw [addr_add]; exact ((unhide Hb7).cell (p := ⟨yb, yo + j, none⟩) hyb).trans (hyc j u hu)⟩) (unhide HY3) (by have := unhide HLn; rw [unhide HNl] at this; unfold maxLen; omega) (by have := unhide HLn; rw [unhide HNl] at this; omega) (unhide Hb7).size ?_
  intro g8 k8 w8 hown8 hb78
  have hb8 : Below w5.heap.size w5 w8 := (unhide Hb7).trans hb78
  have HO8 := hide hown8; have Hb8 := hide hb8
  clear hown8 hb8 hb78
  have hS8 : w8.cell? ⟨B3, 1, none⟩ = some (.slice (some ⟨fa, 0, none⟩) 3 yk1) ∧ w8.cell? ⟨fa, 2, none⟩ = some (.slice wa n wc) := ⟨((unhide Hb8).cell (p := ⟨B3, 1, none⟩) l3).trans hS0.1, ((unhide Hb8).cell (p := ⟨fa, 2, none⟩) lfa).trans hS0.2⟩
  refine hK.out _ _ hS8 (fun _ => ?_)
  clear hK
  (try simp only [List.getElem_toArray, List.getElem_cons_succ, List.getElem_cons_zero, Act.put, List.setIfInBounds_toArray, List.set_cons_zero, List.set_cons_succ])
  refine wpAnyH_take (i := 12) (oi := _) (v := ?v12_9) rfl (by kernel_rfl) (by kernel_rfl) (by kernel_rfl) (fun _ _ _ h => h) (Or.inl ⟨by kernel_rfl, ?y12_9⟩) hS8 ?_
  case y12_9 => intro wx hSw; obtain ⟨s1, s2⟩ := hSw; go_simp; first | done | rfl
  (try simp only [List.getElem_toArray, List.getElem_cons_succ, List.getElem_cons_zero, Act.put, List.setIfInBounds_toArray, List.set_cons_zero, List.set_cons_succ])
  refine wpAnyH_done (by kernel_rfl) ?_ _
  have hcode := idle_code (w0 := w5) (w := w8) (unhide HNl) (unhide HO8) (unhide HY1) (fun k hk _ _ => ⟨Nat.lt_of_lt_of_le hk (unhide Hb8).size, (unhide Hb8).block k hk⟩)
  have HCd := hide hcode
  clear hcode hS0 hS6 hS7 hS8 HO7 Hb7 HG7 HO8 HY1 HY2 HY3 HY4 HYl Hb6 HR6 HZ6 lfa l3 hcb hi hz0 hz1 hz2
  replace MBm := hide ((unhide MBm).below (unhide Hb8)); replace MBa := hide ((unhide MBa).below (unhide Hb8)); replace HBw := hide (Below.on0 (unhide HBw) (unhide Hb8) (unhide HBw).size)
  clear Hb8
  have SM8 := MBm; have SA8 := MBa; have SC8 := HCd; have SW8 := HBw; have ST8 := hide (Below.refl w8.heap.size w8)
  obtain ⟨m0, m1, m2, m3, m4, m5, m6, m7⟩ := mbox (unhide MBm).1
  go_wp2_with fail
  refine (unhide HGm w8 B1 30 _ _ _ _ _ _ _ _ (unhide MBm)).mono ?_
  rintro e w9 ⟨v0, v1, v2, v3, v4, v5, v6, v7, rfl, hml0, hof, hbg⟩
  have hml : ModL w9 (fun b => b < w9.heap.size) (scn ps re body) v0 v1 v2 v3 v4 v5 v6 v7 := hml0.moved (fun k hk _ => ⟨hk, rfl⟩) (Nat.le_refl _)
  obtain ⟨⟨za0, zk0, rfl⟩, ⟨za1, zk1, rfl⟩, ⟨za2, zk2, rfl⟩, ⟨za3, zk3, rfl⟩, ⟨za4, zk4, rfl⟩, ⟨za5, zk5, rfl⟩, ⟨za6, zk6, rfl⟩, ⟨za7, zk7, rfl⟩⟩ := scn_sl hml
  obtain ⟨fb, rfl, hfb1, hfb2, hfb3⟩ := own_row hof
  have HFfb := hide (And.intro hfb1 (And.intro hfb2 hfb3))
  clear hml0 hof hfb1 hfb2 hfb3 m0 m1 m2 m3 m4 m5 m6 m7
  have HK9a := hide hbg
  replace MBm := hide ((unhide MBm).below hbg); replace MBa := hide ((unhide MBa).below hbg); replace HCd := hide (code_up hbg (unhide HCd)); replace HBw := hide (Below.on0 (unhide HBw) hbg (unhide HBw).size)
  clear hbg
  obtain ⟨W9, hW9⟩ : ∃ W, w9.alloc (.cells #[.slice za0 3 zk0, .slice (some ⟨fb, 0, none⟩) 3 zk1, .slice za2 1 zk2, .slice za3 1 zk3, .slice za4 2 zk4, .slice za5 0 zk5, .slice za6 0 zk6, .slice za7 0 zk7] 41) = W := ⟨_, rfl⟩
  have hnW9 : Below w9.heap.size w9 W9 := by rw [← hW9]; exact one_al _ _
  have MBb : Hid (MB W9 w9.heap.size 41 (scn ps re body) (.slice za0 3 zk0) (.slice (some ⟨fb, 0, none⟩) 3 zk1) (.slice za2 1 zk2) (.slice za3 1 zk3) (.slice za4 2 zk4) (.slice za5 0 zk5) (.slice za6 0 zk6) (.slice za7 0 zk7)) := hide (by rw [← hW9]; exact MB.new hml)
  clear hml
  replace MBm := hide ((unhide MBm).below hnW9); replace MBa := hide ((unhide MBa).below hnW9); replace HCd := hide (code_up hnW9 (unhide HCd)); replace HBw := hide (Below.on0 (unhide HBw) hnW9 (unhide HBw).size)
  have HK9b := hide hnW9
  have HWW9 := hide hW9
  clear hnW9 hW9
  go_upto_region 9 with fail
  rw [unhide HWW9]
  clear HWW9
  generalize hB5 : w9.heap.size = B5 at *
  have HBq9 := hide hB5
  clear hB5
  have hk9 : Below w8.heap.size w8 W9 := (unhide HK9a).trans ((unhide HK9b).mono (by have h1 := (unhide HK9a).size; have h2 := unhide HBq9; omega))
  have hfb := unhide HFfb
  have hlb : fb < W9.heap.size := by have h1 := hfb.2.1; have h2 := (unhide HK9b).size; have h3 := unhide HBq9; omega
  have hrb : ∃ cur T, W9.heap[fb]? = some (.cells cur T (0, 0)) := by obtain ⟨cur, T, h⟩ := hfb.2.2; exact ⟨cur, T, ((unhide HK9b).block fb (by have h1 := hfb.2.1; have h3 := unhide HBq9; omega)).trans h⟩
  have hbl : w8.heap.size ≤ fb := by have := hfb.1; omega
  have hne5 : B5 ≠ fb := by have := unhide HBq9; have := hfb.2.1; omega
  have fz : ∀ j, W9.frozen? ⟨fb, j, none⟩ = false := fun j => by obtain ⟨cur, T, h⟩ := hrb; exact frozen_of_row W9 _ j _ _ h
  obtain ⟨wa2, wc2, hcb, -⟩ := scn_body (unhide MBb).2
  obtain ⟨c0, c1, c2, c3, c4, c5, c6, c7⟩ := mbox (unhide MBb).1
  have HS := hide (show MB (W9.setCell ⟨fb, 2, none⟩ (.slice (some ⟨g8, 0, none⟩) (3 + n) k8)) B5 41 (scn ps re (idl body)) (.slice za0 3 zk0) (.slice (some ⟨fb, 0, none⟩) 3 zk1) (.slice za2 1 zk2) (.slice za3 1 zk3) (.slice za4 2 zk4) (.slice za5 0 zk5) (.slice za6 0 zk6) (.slice za7 0 zk7) from (unhide MBb).set hne5 hrb (unhide HCd))
  have hk10 : Below w8.heap.size w8 (W9.setCell ⟨fb, 2, none⟩ (.slice (some ⟨g8, 0, none⟩) (3 + n) k8)) := hk9.setCell (p := ⟨fb, 2, none⟩) hbl _
  have MBm := hide ((unhide SM8).below hk10); have MBa := hide ((unhide SA8).below hk10); have HBw := hide (Below.on0 (unhide SW8) hk10 (unhide SW8).size); have MBb := HS
  clear hk9 hfb hlb hbl hne5 hrb hk10 HS SM8 SA8 SC8 SW8 ST8 HCd HK9a HK9b HBq9 HFfb
  go_upto_region 10 with fail
  clear fz hcb c0 c1 c2 c3 c4 c5 c6 c7
  generalize hWT : W9.setCell ⟨fb, 2, none⟩ (.slice (some ⟨g8, 0, none⟩) (3 + n) k8) = WT at *
  clear hWT
  obtain ⟨c0, c1, c2, c3, c4, c5, c6, c7⟩ := mbox (unhide MBb).1
  go_wp2_with fail
  refine (unhide HB1 WT (unhide HBw) B5 41 _ _ _ _ _ _ _ _ (unhide MBb)).1.mono ?_
  first | rw [unhide HIE] | rw [unhide HIE, unhide HE0]
  rintro e w10 ⟨rfl, hb10⟩
  clear c0 c1 c2 c3 c4 c5 c6 c7
  replace MBm := hide ((unhide MBm).below hb10); replace MBa := hide ((unhide MBa).below hb10); replace MBb := hide ((unhide MBb).below hb10); replace HBw := hide (Below.on0 (unhide HBw) hb10 (unhide HBw).size)
  clear hb10
  go_wp2_with fail
  refine (unhide HNu E0 w10 (unhide HBw)).mono ?_
  rintro e w11 ⟨rfl, hb11⟩
  replace MBm := hide ((unhide MBm).below hb11); replace MBa := hide ((unhide MBa).below hb11); replace MBb := hide ((unhide MBb).below hb11); replace HBw := hide (Below.on0 (unhide HBw) hb11 (unhide HBw).size)
  clear hb11
  by_cases hq : ¬ E0 = 0
  · have hq0 : (E0 != 0) = true := by simpa using hq
    clear hq
    go_wp2_with fail
    refine (unhide HSu w11 (unhide HBw)).mono ?_
    rintro e w12 ⟨rfl, hb12⟩
    have HBw := hide (Below.on0 (unhide HBw) hb12 (unhide HBw).size)
    clear hb12
    go_wp2
    go_ret
    exact ⟨rfl, unhide HBw⟩
  obtain rfl : E0 = 0 := Decidable.not_not.1 hq
  clear hq
  have SM11 := MBm; have SA11 := MBa; have SW11 := HBw; have ST11 := hide (Below.refl w11.heap.size w11)
  have SB11 := MBb
  obtain ⟨m0, m1, m2, m3, m4, m5, m6, m7⟩ := mbox (unhide MBm).1
  go_wp2_with fail
  refine (unhide HGm w11 B1 30 _ _ _ _ _ _ _ _ (unhide MBm)).mono ?_
  rintro e w13 ⟨v0, v1, v2, v3, v4, v5, v6, v7, rfl, hml0, hof, hbg⟩
  have hml : ModL w13 (fun b => b < w13.heap.size) (scn ps re body) v0 v1 v2 v3 v4 v5 v6 v7 := hml0.moved (fun k hk _ => ⟨hk, rfl⟩) (Nat.le_refl _)
  obtain ⟨⟨ta0, tk0, rfl⟩, ⟨ta1, tk1, rfl⟩, ⟨ta2, tk2, rfl⟩, ⟨ta3, tk3, rfl⟩, ⟨ta4, tk4, rfl⟩, ⟨ta5, tk5, rfl⟩, ⟨ta6, tk6, rfl⟩, ⟨ta7, tk7, rfl⟩⟩ := scn_sl hml
  obtain ⟨fc, rfl, hfc1, hfc2, hfc3⟩ := own_row hof
  have HFfc := hide (And.intro hfc1 (And.intro hfc2 hfc3))
  clear hml0 hof hfc1 hfc2 hfc3 m0 m1 m2 m3 m4 m5 m6 m7
  have HK13a := hide hbg
  replace MBm := hide ((unhide MBm).below hbg); replace MBa := hide ((unhide MBa).below hbg); replace MBb := hide ((unhide MBb).below hbg); replace HBw := hide (Below.on0 (unhide HBw) hbg (unhide HBw).size)
  clear hbg
  obtain ⟨W13, hW13⟩ : ∃ W, w13.alloc (.cells #[.slice ta0 3 tk0, .slice (some ⟨fc, 0, none⟩) 3 tk1, .slice ta2 1 tk2, .slice ta3 1 tk3, .slice ta4 2 tk4, .slice ta5 0 tk5, .slice ta6 0 tk6, .slice ta7 0 tk7] 41) = W := ⟨_, rfl⟩
  have hnW13 : Below w13.heap.size w13 W13 := by rw [← hW13]; exact one_al _ _
  have MBc : Hid (MB W13 w13.heap.size 41 (scn ps re body) (.slice ta0 3 tk0) (.slice (some ⟨fc, 0, none⟩) 3 tk1) (.slice ta2 1 tk2) (.slice ta3 1 tk3) (.slice ta4 2 tk4) (.slice ta5 0 tk5) (.slice ta6 0 tk6) (.slice ta7 0 tk7)) := hide (by rw [← hW13]; exact MB.new hml)
  clear hml
  replace MBm := hide ((unhide MBm).below hnW13); replace MBa := hide ((unhide MBa).below hnW13); replace MBb := hide ((unhide MBb).below hnW13); replace HBw := hide (Below.on0 (unhide HBw) hnW13 (unhide HBw).size)
  have HK13b := hide hnW13
  have HWW13 := hide hW13
  clear hnW13 hW13
  go_upto_region 15 with fail
  rw [unhide HWW13]
  clear HWW13
  generalize hB7 : w13.heap.size = B7 at *
  have HBq13 := hide hB7
  clear hB7
  have hfc := unhide HFfc
  have hk13 : Below w11.heap.size w11 W13 := (unhide HK13a).trans ((unhide HK13b).mono (by have h1 := (unhide HK13a).size; have h2 := unhide HBq13; omega))
  have hlc : fc < W13.heap.size := by have h1 := hfc.2.1; have h2 := (unhide HK13b).size; have h3 := unhide HBq13; omega
  have hrc : ∃ cur T, W13.heap[fc]? = some (.cells cur T (0, 0)) := by obtain ⟨cur, T, h⟩ := hfc.2.2; exact ⟨cur, T, ((unhide HK13b).block fc (by have h1 := hfc.2.1; have h3 := unhide HBq13; omega)).trans h⟩
  have hcl : w11.heap.size ≤ fc := by have := hfc.1; omega
  have hne7 : B7 ≠ fc := by have := unhide HBq13; have := hfc.2.1; omega
  have hb1m := (unhide SM11).lt
  have hne1 : B1 ≠ fc := by omega
  obtain ⟨c0, c1, c2, c3, c4, c5, c6, c7⟩ := mbox (unhide MBc).1
  obtain ⟨m0, m1, m2, m3, m4, m5, m6, m7⟩ := mbox (unhide MBm).1
  have l7 : B7 < W13.heap.size := (unhide MBc).lt
  have l1 : B1 < W13.heap.size := (unhide MBm).lt
  have hS0 : (W13.drew.cell? ⟨B1, 0, none⟩ = some (.slice xa0 3 xk0) ∧ W13.drew.cell? ⟨B1, 1, none⟩ = some (.slice xa1 3 xk1) ∧ W13.drew.cell? ⟨B1, 2, none⟩ = some (.slice xa2 1 xk2) ∧ W13.drew.cell? ⟨B1, 3, none⟩ = some (.slice xa3 1 xk3) ∧ W13.drew.cell? ⟨B1, 4, none⟩ = some (.slice xa4 2 xk4) ∧ W13.drew.cell? ⟨B1, 5, none⟩ = some (.slice xa5 0 xk5) ∧ W13.drew.cell? ⟨B1, 6, none⟩ = some (.slice xa6 0 xk6) ∧ W13.drew.cell? ⟨B1, 7, none⟩ = some (.slice xa7 0 xk7)) ∧ W13.drew.cell? ⟨B7, 1, none⟩ = some (.slice (some ⟨fc, 0, none⟩) 3 tk1) := ⟨⟨m0, m1, m2, m3, m4, m5, m6, m7⟩, c1⟩
  have HK13 := hide hk13; have HRc := hide hrc; have HCl := hide hcl; have HNe := hide (And.intro hne7 hne1)
  clear hfc hk13 hrc hcl hb1m hne7 hne1 c0 c1 c2 c3 c4 c5 c6 c7 m0 m1 m2 m3 m4 m5 m6 m7 HK13a HK13b HBq13 HFfc
  refine wp_region_held_drew (S := fun w' => (w'.cell? ⟨B1, 0, none⟩ = some (.slice xa0 3 xk0) ∧ w'.cell? ⟨B1, 1, none⟩ = some (.slice xa1 3 xk1) ∧ w'.cell? ⟨B1, 2, none⟩ = some (.slice xa2 1 xk2) ∧ w'.cell? ⟨B1, 3, none⟩ = some (.slice xa3 1 xk3) ∧ w'.cell? ⟨B1, 4, none⟩ = some (.slice xa4 2 xk4) ∧ w'.cell? ⟨B1, 5, none⟩ = some (.slice xa5 0 xk5) ∧ w'.cell? ⟨B1, 6, none⟩ = some (.slice xa6 0 xk6) ∧ w'.cell? ⟨B1, 7, none⟩ = some (.slice xa7 0 xk7)) ∧ w'.cell? ⟨B7, 1, none⟩ = some (.slice (some ⟨fc, 0, none⟩) 3 tk1)) (by kernel_rfl) hS0 (fun _ => ?_)
  refine wpAnyH_take (i := 0) (oi := _) (v := ?v0_10) rfl (by kernel_rfl) (by kernel_rfl) (by kernel_rfl) (fun _ _ _ h => h) (Or.inl ⟨by kernel_rfl, ?y0_10⟩) hS0 ?_
  case y0_10 => intro wx hSw; obtain ⟨⟨s0, s1, s2, s3, s4, s5, s6, s7⟩, s8⟩ := hSw; go_simp; first | done | rfl
  (try simp only [List.getElem_toArray, List.getElem_cons_succ, List.getElem_cons_zero, Act.put, List.setIfInBounds_toArray, List.set_cons_zero, List.set_cons_succ])
  refine wpAnyH_take (i := 1) (oi := _) (v := ?v1_11) rfl (by kernel_rfl) (by kernel_rfl) (by kernel_rfl) (fun _ _ _ h => h) (Or.inl ⟨by kernel_rfl, ?y1_11⟩) hS0 ?_
  case y1_11 => intro wx hSw; obtain ⟨⟨s0, s1, s2, s3, s4, s5, s6, s7⟩, s8⟩ := hSw; go_simp; first | done | rfl
  (try simp only [List.getElem_toArray, List.getElem_cons_succ, List.getElem_cons_zero, Act.put, List.setIfInBounds_toArray, List.set_cons_zero, List.set_cons_succ])
  refine wpAnyH_take (i := 2) (oi := _) (v := ?v2_12) rfl (by kernel_rfl) (by kernel_rfl) (by kernel_rfl) (fun _ _ _ h => h) (Or.inl ⟨by kernel_rfl, ?y2_12⟩) hS0 ?_
  case y2_12 => intro wx hSw; obtain ⟨⟨s0, s1, s2, s3, s4, s5, s6, s7⟩, s8⟩ := hSw; go_simp; first | done | rfl
  (try simp only [List.getElem_toArray, List.getElem_cons_succ, List.getElem_cons_zero, Act.put, List.setIfInBounds_toArray, List.set_cons_zero, List.set_cons_succ])
  refine wpAnyH_take (i := 3) (oi := _) (v := ?v3_13) rfl (by kernel_rfl) (by kernel_rfl) (by kernel_rfl) (fun _ _ _ h => h) (Or.inl ⟨by kernel_rfl, ?y3_13⟩) hS0 ?_
  case y3_13 => intro wx hSw; obtain ⟨⟨s0, s1, s2, s3, s4, s5, s6, s7⟩, s8⟩ := hSw; go_simp; first | done | rfl
  (try simp only [List.getElem_toArray, List.getElem_cons_succ, List.getElem_cons_zero, Act.put, List.setIfInBounds_toArray, List.set_cons_zero, List.set_cons_succ])
  refine wpAnyH_ready (rs := [4]) (by kernel_rfl) (by simp) ?_
  refine AllReadyH.cons rfl (fun K hK => ?_) AllReadyH.nil
  go_simp
  go_at_call 11
  refine (unhide HGm W13.drew B1 30 _ _ _ _ _ _ _ _ ((unhide MBm).below (Below.refl _ _).drew)).mono ?_
  rintro e w14 ⟨v0, v1, v2, v3, v4, v5, v6, v7, rfl, hml0, hof, hb14⟩
  have hml : ModL w14 (fun b => b < w14.heap.size) (scn ps re body) v0 v1 v2 v3 v4 v5 v6 v7 := hml0.moved (fun k hk _ => ⟨hk, rfl⟩) (Nat.le_refl _)
  obtain ⟨⟨sa0, sk0, rfl⟩, ⟨sa1, sk1, rfl⟩, ⟨sa2, sk2, rfl⟩, ⟨sa3, sk3, rfl⟩, ⟨sa4, sk4, rfl⟩, ⟨sa5, sk5, rfl⟩, ⟨sa6, sk6, rfl⟩, ⟨sa7, sk7, rfl⟩⟩ := scn_sl hml
  obtain ⟨fd, rfl, -, -, -⟩ := own_row hof
  obtain ⟨wa, wc, hcd, hco⟩ := scn_body hml
  rw [unhide HNl] at hcd hco
  have HCo := hide hco
  have hB14 : Below W13.heap.size W13 w14 := (Below.refl W13.heap.size W13).drew.trans hb14
  have hS14 : (w14.cell? ⟨B1, 0, none⟩ = some (.slice xa0 3 xk0) ∧ w14.cell? ⟨B1, 1, none⟩ = some (.slice xa1 3 xk1) ∧ w14.cell? ⟨B1, 2, none⟩ = some (.slice xa2 1 xk2) ∧ w14.cell? ⟨B1, 3, none⟩ = some (.slice xa3 1 xk3) ∧ w14.cell? ⟨B1, 4, none⟩ = some (.slice xa4 2 xk4) ∧ w14.cell? ⟨B1, 5, none⟩ = some (.slice xa5 0 xk5) ∧ w14.cell? ⟨B1, 6, none⟩ = some (.slice xa6 0 xk6) ∧ w14.cell? ⟨B1, 7, none⟩ = some (.slice xa7 0 xk7)) ∧ w14.cell? ⟨B7, 1, none⟩ = some (.slice (some ⟨fc, 0, none⟩) 3 tk1) := ⟨⟨(hB14.cell (p := ⟨B1, 0, none⟩) l1).trans hS0.1.1, (hB14.cell (p := ⟨B1, 1, none⟩) l1).trans hS0.1.2.1, (hB14.cell (p := ⟨B1, 2, none⟩) l1).trans hS0.1.2.2.1, (hB14.cell (p := ⟨B1, 3, none⟩) l1).trans hS0.1.2.2.2.1, (hB14.cell (p := ⟨B1, 4, none⟩) l1).trans hS0.1.2.2.2.2.1, (hB14.cell (p := ⟨B1, 5, none⟩) l1).trans hS0.1.2.2.2.2.2.1, (hB14.cell (p := ⟨B1, 6, none⟩) l1).trans hS0.1.2.2.2.2.2.2.1, (hB14.cell (p := ⟨B1, 7, none⟩) l1).trans hS0.1.2.2.2.2.2.2.2⟩, (hB14.cell (p := ⟨B7, 1, none⟩) l7).trans hS0.2⟩
  have HB14 := hide hB14
  clear hml0 hml hof hb14 hco hB14
  (try go_wp2_with fail)
  refine hK.out _ _ hS14 (fun _ => ?_)
  clear hK
  (try simp only [List.getElem_toArray, List.getElem_cons_succ, List.getElem_cons_zero, Act.put, List.setIfInBounds_toArray, List.set_cons_zero, List.set_cons_succ])
  refine wpAnyH_take (i := 5) (oi := _) (v := ?v5_14) rfl (by kernel_rfl) (by kernel_rfl) (by kernel_rfl) (fun _ _ _ h => h) (Or.inl ⟨by kernel_rfl, ?y5_14⟩) hS14 ?_
  case y5_14 => intro wx hSw; obtain ⟨⟨s0, s1, s2, s3, s4, s5, s6, s7⟩, s8⟩ := hSw; go_simp; first | done | rfl
  (try simp only [List.getElem_toArray, List.getElem_cons_succ, List.getElem_cons_zero, Act.put, List.setIfInBounds_toArray, List.set_cons_zero, List.set_cons_succ])
  refine wpAnyH_take (i := 6) (oi := _) (v := ?v6_15) rfl (by kernel_rfl) (by kernel_rfl) (by kernel_rfl) (fun _ _ _ h => h) (Or.inl ⟨by kernel_rfl, ?y6_15⟩) hS14 ?_
  case y6_15 => intro wx hSw; obtain ⟨⟨s0, s1, s2, s3, s4, s5, s6, s7⟩, s8⟩ := hSw; go_simp; first | done | rfl
  (try simp only [List.getElem_toArray, List.getElem_cons_succ, List.getElem_cons_zero, Act.put, List.setIfInBounds_toArray, List.set_cons_zero, List.set_cons_succ])
  refine wpAnyH_take (i := 7) (oi := _) (v := ?v7_16) rfl (by kernel_rfl) (by kernel_rfl) (by kernel_rfl) (fun _ _ _ h => h) (Or.inl ⟨by kernel_rfl, ?y7_16⟩) hS14 ?_
  case y7_16 => intro wx hSw; obtain ⟨⟨s0, s1, s2, s3, s4, s5, s6, s7⟩, s8⟩ := hSw; go_simp; first | done | rfl
  (try simp only [List.getElem_toArray, List.getElem_cons_succ, List.getElem_cons_zero, Act.put, List.setIfInBounds_toArray, List.set_cons_zero, List.set_cons_succ])
  refine wpAnyH_ready (rs := [8]) (by kernel_rfl) (by simp) ?_
  refine AllReadyH.cons rfl (fun K hK => ?_) AllReadyH.nil
  go_simp
  refine hK.out _ _ hS14 (fun _ => ?_)
  clear hK
  (try simp only [List.getElem_toArray, List.getElem_cons_succ, List.getElem_cons_zero, Act.put, List.setIfInBounds_toArray, List.set_cons_zero, List.set_cons_succ])
  refine wpAnyH_take (i := 9) (oi := _) (v := ?v9_17) rfl (by kernel_rfl) (by kernel_rfl) (by kernel_rfl) (fun _ _ _ h => h) (Or.inl ⟨by kernel_rfl, ?y9_17⟩) hS14 ?_
  case y9_17 => intro wx hSw; obtain ⟨⟨s0, s1, s2, s3, s4, s5, s6, s7⟩, s8⟩ := hSw; go_simp; first | done | rfl
  (try simp only [List.getElem_toArray, List.getElem_cons_succ, List.getElem_cons_zero, Act.put, List.setIfInBounds_toArray, List.set_cons_zero, List.set_cons_succ])
  refine wpAnyH_ready (rs := [10]) (by kernel_rfl) (by simp) ?_
  refine AllReadyH.cons rfl (fun K hK => ?_) AllReadyH.nil
  obtain ⟨W15, hW15⟩ : ∃ W, w14.alloc (.cells #[.int .u8 2, .int .i64 0, .int .u32 0, .int .u32 0, .int .u8 re, .slice wa n wc, .slice none 0 0, .slice none 0 0] 63) = W := ⟨_, rfl⟩
  have hr15 : W15.heap[w14.heap.size]? = some (.cells #[.int .u8 2, .int .i64 0, .int .u32 0, .int .u32 0, .int .u8 re, .slice wa n wc, .slice none 0 0, .slice none 0 0] 63 (0, 0)) := by rw [← hW15]; exact heap_alloc_new w14 _
  have hb15 : Below w14.heap.size w14 W15 := by rw [← hW15]; exact one_al _ _
  have hB15 := (unhide HB14).trans (hb15.mono (unhide HB14).size)
  have HW15 := hide hW15; have HR15 := hide hr15; have Hb15 := hide hb15; have HB15 := hide hB15
  have hS15 : (W15.cell? ⟨B1, 0, none⟩ = some (.slice xa0 3 xk0) ∧ W15.cell? ⟨B1, 1, none⟩ = some (.slice xa1 3 xk1) ∧ W15.cell? ⟨B1, 2, none⟩ = some (.slice xa2 1 xk2) ∧ W15.cell? ⟨B1, 3, none⟩ = some (.slice xa3 1 xk3) ∧ W15.cell? ⟨B1, 4, none⟩ = some (.slice xa4 2 xk4) ∧ W15.cell? ⟨B1, 5, none⟩ = some (.slice xa5 0 xk5) ∧ W15.cell? ⟨B1, 6, none⟩ = some (.slice xa6 0 xk6) ∧ W15.cell? ⟨B1, 7, none⟩ = some (.slice xa7 0 xk7)) ∧ W15.cell? ⟨B7, 1, none⟩ = some (.slice (some ⟨fc, 0, none⟩) 3 tk1) := ⟨⟨(hB15.cell (p := ⟨B1, 0, none⟩) l1).trans hS0.1.1, (hB15.cell (p := ⟨B1, 1, none⟩) l1).trans hS0.1.2.1, (hB15.cell (p := ⟨B1, 2, none⟩) l1).trans hS0.1.2.2.1, (hB15.cell (p := ⟨B1, 3, none⟩) l1).trans hS0.1.2.2.2.1, (hB15.cell (p := ⟨B1, 4, none⟩) l1).trans hS0.1.2.2.2.2.1, (hB15.cell (p := ⟨B1, 5, none⟩) l1).trans hS0.1.2.2.2.2.2.1, (hB15.cell (p := ⟨B1, 6, none⟩) l1).trans hS0.1.2.2.2.2.2.2.1, (hB15.cell (p := ⟨B1, 7, none⟩) l1).trans hS0.1.2.2.2.2.2.2.2⟩, (hB15.cell (p := ⟨B7, 1, none⟩) l7).trans hS0.2⟩
  clear hW15 hr15 hb15 hB15
  go_simp
  first | rw [unhide HW15] | (rw [show w14.alloc (.cells #[.int .u8 2, .int .i64 0, .int .u32 0, .int .u32 0, .int .u8 re, .slice wa n wc, .slice none 0 0, .slice none 0 0] 63) = W15 from unhide HW15])
  clear HW15
  refine hK.out _ _ hS15 (fun _ => ?_)
  clear hK
  (try simp only [List.getElem_toArray, List.getElem_cons_succ, List.getElem_cons_zero, Act.put, List.setIfInBounds_toArray, List.set_cons_zero, List.set_cons_succ])
  refine wpAnyH_take (i := 11) (oi := _) (v := ?v11_18) rfl (by kernel_rfl) (by kernel_rfl) (by kernel_rfl) (fun _ _ _ h => h) (Or.inl ⟨by kernel_rfl, ?y11_18⟩) hS15 ?_
  case y11_18 => intro wx hSw; obtain ⟨⟨s0, s1, s2, s3, s4, s5, s6, s7⟩, s8⟩ := hSw; go_simp; first | done | rfl
  (try simp only [List.getElem_toArray, List.getElem_cons_succ, List.getElem_cons_zero, Act.put, List.setIfInBounds_toArray, List.set_cons_zero, List.set_cons_succ])
  refine wpAnyH_take (i := 12) (oi := _) (v := ?v12_19) rfl (by kernel_rfl) (by kernel_rfl) (by kernel_rfl) (fun _ _ _ h => h) (Or.inl ⟨by kernel_rfl, ?y12_19⟩) hS15 ?_
  case y12_19 => intro wx hSw; obtain ⟨⟨s0, s1, s2, s3, s4, s5, s6, s7⟩, s8⟩ := hSw; go_simp; first | done | rfl
  (try simp only [List.getElem_toArray, List.getElem_cons_succ, List.getElem_cons_zero, Act.put, List.setIfInBounds_toArray, List.set_cons_zero, List.set_cons_succ])
  refine wpAnyH_ready (rs := [13]) (by kernel_rfl) (by simp) ?_
  refine AllReadyH.cons rfl (fun K hK => ?_) AllReadyH.nil
  obtain ⟨cur, Tc, hrow⟩ := unhide HRc
  have hrow15 := ((unhide HB15).block fc hlc).trans hrow
  have fz : ∀ j, W15.frozen? ⟨fc, j, none⟩ = false := fun j => frozen_of_row W15 _ j _ _ hrow15
  obtain ⟨wa3, wc3, hcc3, -⟩ := scn_body ((unhide MBc).below (unhide HB15)).2
  have hS16 : ((W15.setCell ⟨fc, 2, none⟩ (.slice (some ⟨w14.heap.size, 0, none⟩) 1 1)).cell? ⟨B1, 0, none⟩ = some (.slice xa0 3 xk0) ∧ (W15.setCell ⟨fc, 2, none⟩ (.slice (some ⟨w14.heap.size, 0, none⟩) 1 1)).cell? ⟨B1, 1, none⟩ = some (.slice xa1 3 xk1) ∧ (W15.setCell ⟨fc, 2, none⟩ (.slice (some ⟨w14.heap.size, 0, none⟩) 1 1)).cell? ⟨B1, 2, none⟩ = some (.slice xa2 1 xk2) ∧ (W15.setCell ⟨fc, 2, none⟩ (.slice (some ⟨w14.heap.size, 0, none⟩) 1 1)).cell? ⟨B1, 3, none⟩ = some (.slice xa3 1 xk3) ∧ (W15.setCell ⟨fc, 2, none⟩ (.slice (some ⟨w14.heap.size, 0, none⟩) 1 1)).cell? ⟨B1, 4, none⟩ = some (.slice xa4 2 xk4) ∧ (W15.setCell ⟨fc, 2, none⟩ (.slice (some ⟨w14.heap.size, 0, none⟩) 1 1)).cell? ⟨B1, 5, none⟩ = some (.slice xa5 0 xk5) ∧ (W15.setCell ⟨fc, 2, none⟩ (.slice (some ⟨w14.heap.size, 0, none⟩) 1 1)).cell? ⟨B1, 6, none⟩ = some (.slice xa6 0 xk6) ∧ (W15.setCell ⟨fc, 2, none⟩ (.slice (some ⟨w14.heap.size, 0, none⟩) 1 1)).cell? ⟨B1, 7, none⟩ = some (.slice xa7 0 xk7)) ∧ (W15.setCell ⟨fc, 2, none⟩ (.slice (some ⟨w14.heap.size, 0, none⟩) 1 1)).cell? ⟨B7, 1, none⟩ = some (.slice (some ⟨fc, 0, none⟩) 3 tk1) := ⟨⟨(set_ne ⟨_, _, hrow15⟩ (fun h => (unhide HNe).2 h.1)).trans hS15.1.1, (set_ne ⟨_, _, hrow15⟩ (fun h => (unhide HNe).2 h.1)).trans hS15.1.2.1, (set_ne ⟨_, _, hrow15⟩ (fun h => (unhide HNe).2 h.1)).trans hS15.1.2.2.1, (set_ne ⟨_, _, hrow15⟩ (fun h => (unhide HNe).2 h.1)).trans hS15.1.2.2.2.1, (set_ne ⟨_, _, hrow15⟩ (fun h => (unhide HNe).2 h.1)).trans hS15.1.2.2.2.2.1, (set_ne ⟨_, _, hrow15⟩ (fun h => (unhide HNe).2 h.1)).trans hS15.1.2.2.2.2.2.1, (set_ne ⟨_, _, hrow15⟩ (fun h => (unhide HNe).2 h.1)).trans hS15.1.2.2.2.2.2.2.1, (set_ne ⟨_, _, hrow15⟩ (fun h => (unhide HNe).2 h.1)).trans hS15.1.2.2.2.2.2.2.2⟩, (set_ne ⟨_, _, hrow15⟩ (fun h => (unhide HNe).1 h.1)).trans hS15.2⟩
  go_simp
  refine hK.out _ _ hS16 (fun _ => ?_)
  clear hK
  (try simp only [List.getElem_toArray, List.getElem_cons_succ, List.getElem_cons_zero, Act.put, List.setIfInBounds_toArray, List.set_cons_zero, List.set_cons_succ])
  refine wpAnyH_done (by kernel_rfl) ?_ _
  have hcode := blk_code (re := re) (l := body) (by have h := unhide HCo; rw [← unhide HNl] at h; exact h) (fun k hk _ hg => ⟨Nat.lt_of_lt_of_le hk (unhide Hb15).size, (unhide Hb15).block k hk⟩) (by have h := unhide HR15; rw [← unhide HNl] at h; exact h)
  have hMc := ((unhide MBc).below (unhide HB15)).set (unhide HNe).1 ⟨_, _, hrow15⟩ hcode
  have hk16 : Below w11.heap.size w11 (W15.setCell ⟨fc, 2, none⟩ (.slice (some ⟨w14.heap.size, 0, none⟩) 1 1)) := ((unhide HK13).trans ((unhide HB15).mono (unhide HK13).size)).setCell (p := ⟨fc, 2, none⟩) (unhide HCl) _
  have MBm := hide ((unhide SM11).below hk16); have MBa := hide ((unhide SA11).below hk16); have MBb := hide ((unhide SB11).below hk16); have HBw := hide (Below.on0 (unhide SW11) hk16 (unhide SW11).size); have MBc := hide hMc
  clear hcode hMc hk16 SM11 SA11 SB11 SW11 ST11 hS0 hS14 hS15 hS16 fz hcc3 hrow hrow15 HRc HCl HNe HK13 HCo HR15 Hb15 HB14 HB15 hcd hlc l1 l7
  generalize hWU : W15.setCell ⟨fc, 2, none⟩ (.slice (some ⟨w14.heap.size, 0, none⟩) 1 1) = WU at *
  clear hWU
  obtain ⟨c0, c1, c2, c3, c4, c5, c6, c7⟩ := mbox (unhide MBa).1
  go_wp2_with fail
  refine (unhide HB0 WU (unhide HBw) B3 41 _ _ _ _ _ _ _ _ (unhide MBa)).2.mono ?_
  first | rw [errV_0] | rw [unhide HE0, errV_0]
  rintro e w17 ⟨rfl, hb17⟩
  clear c0 c1 c2 c3 c4 c5 c6 c7
  replace MBm := hide ((unhide MBm).below hb17); replace MBa := hide ((unhide MBa).below hb17); replace MBb := hide ((unhide MBb).below hb17); replace MBc := hide ((unhide MBc).below hb17); replace HBw := hide (Below.on0 (unhide HBw) hb17 (unhide HBw).size)
  clear hb17
  obtain ⟨c0, c1, c2, c3, c4, c5, c6, c7⟩ := mbox (unhide MBc).1
  go_wp2_with fail
  refine (unhide HB2 w17 (unhide HBw) B7 41 _ _ _ _ _ _ _ _ (unhide MBc)).2.mono ?_
  have hbn := (show _ ∧ _ from by first | exact unhide HBN trivial | exact unhide HBN rfl | exact unhide HBN (unhide HE0))
  rw [hbn.1, errV_0]
  clear hbn
  rintro e w18 ⟨rfl, hb18⟩
  clear c0 c1 c2 c3 c4 c5 c6 c7
  replace MBm := hide ((unhide MBm).below hb18); replace MBa := hide ((unhide MBa).below hb18); replace MBb := hide ((unhide MBb).below hb18); replace MBc := hide ((unhide MBc).below hb18); replace HBw := hide (Below.on0 (unhide HBw) hb18 (unhide HBw).size)
  clear hb18
  obtain ⟨c0, c1, c2, c3, c4, c5, c6, c7⟩ := mbox (unhide MBb).1
  go_wp2_with fail
  refine (unhide HB1 w18 (unhide HBw) B5 41 _ _ _ _ _ _ _ _ (unhide MBb)).2.mono ?_
  first | rw [unhide HIE, errV_0] | rw [unhide HIE, unhide HE0, errV_0]
  rintro e w19 ⟨rfl, hb19⟩
  clear c0 c1 c2 c3 c4 c5 c6 c7
  replace MBm := hide ((unhide MBm).below hb19); replace MBa := hide ((unhide MBa).below hb19); replace MBb := hide ((unhide MBb).below hb19); replace MBc := hide ((unhide MBc).below hb19); replace HBw := hide (Below.on0 (unhide HBw) hb19 (unhide HBw).size)
  clear hb19
  have hN0 := hgN_pos (scn ps re body) 0
  have hY := (show _ ∧ _ from by first | exact unhide HBN trivial | exact unhide HBN rfl | exact unhide HBN (unhide HE0)).2
  have hZ := (show hgN (scn ps re (idl body)) 0 = max (hgN (scn ps re body) 0) 1 from by first | exact unhide HIN trivial | exact unhide HIN rfl | exact unhide HIN (unhide HE0))
  generalize hgN (scn ps re body) 0 = N0 at *
  generalize hgN (scn ps re (blkd re body)) 0 = Y at *
  generalize hgN (scn ps re (idl body)) 0 = Z at *
  have HSe := hide (unhide HSu w19 (unhide HBw))
  clear HSu HB0 HB1 HB2 HBig HGm HNu HIE HIN HBN HE0
  by_cases hr : re = 0
  · rw [if_pos hr] at hY
    have hr0 : (re != 0) = false := by rw [hr]; rfl
    obtain rfl : Y = N0 := by omega
    clear hr hY
    by_cases h1 : 1 ≤ Y
    · obtain rfl : Z = Y := by omega
      clear hZ
      go_wp2_with fail
      refine (unhide HSe).mono ?_
      rintro e w20 ⟨rfl, hb20⟩
      have HBw := hide (Below.on0 (unhide HBw) hb20 (unhide HBw).size)
      clear hb20
      go_wp2
      go_ret
      exact ⟨ret_bool (by simp), unhide HBw⟩
    · obtain rfl : Y = 0 := by omega
      obtain rfl : Z = 1 := by omega
      clear hZ h1 hN0
      go_wp2_with fail
      refine (unhide HSe).mono ?_
      rintro e w20 ⟨rfl, hb20⟩
      have HBw := hide (Below.on0 (unhide HBw) hb20 (unhide HBw).size)
      clear hb20
      go_wp2
      go_ret
      exact ⟨ret_bool (by simp), unhide HBw⟩
  · rw [if_neg hr] at hY
    have hr0 : (re != 0) = true := by simpa using hr
    clear hr
    by_cases h1 : 1 ≤ N0
    · obtain rfl : Y = N0 := by omega
      obtain rfl : Z = Y := by omega
      clear hZ hY
      go_wp2_with fail
      refine (unhide HSe).mono ?_
      rintro e w20 ⟨rfl, hb20⟩
      have HBw := hide (Below.on0 (unhide HBw) hb20 (unhide HBw).size)
      clear hb20
      go_wp2
      go_ret
      exact ⟨ret_bool (by simp), unhide HBw⟩
    · obtain rfl : N0 = 0 := by omega
      obtain rfl : Y = 1 := by omega
      obtain rfl : Z = 1 := by omega
      clear hZ hY h1 hN0
      go_wp2_with fail
      refine (unhide HSe).mono ?_
      rintro e w20 ⟨rfl, hb20⟩
      have HBw := hide (Below.on0 (unhide HBw) hb20 (unhide HBw).size)
      clear hb20
      go_wp2
      go_ret
      exact ⟨ret_bool (by simp), unhide HBw⟩
end Vw
end Go.Proofs.YtcpknafaocdjdaaGreatDoor

/- An argument opened: a row of bytes. -/
namespace Go.Proofs.YtcpknafaocdjdaaGreatDoor
open Go.ChangeShapes Go.WideShapes Go.ChangeAt Go.RowKit
namespace Gm
set_option linter.unusedVariables false
set_option linter.unusedSimpArgs false
open Ex (Lies)
theorem open_u8s {H : Type} {enc : TypeId × Value → H} {w : World} {a : Option Addr} {n c : Nat} {d : DataW H} {p : List MemPlace}
    (h : DataW.Trod enc Tryz.prog w 0 (fun _ => true) true 54 (.slice a n c) d p) : ∃ zs : List Int, n = zs.length ∧ Lies (fun _ => True) zs.length (Byts w zs) (.slice a n c) ∧ (∀ z ∈ zs, 0 ≤ z ∧ z ≤ 255) ∧ zs.length + 1 ≤ Rows.uptoBulk d := by
  obtain ⟨fuel, hf⟩ := h
  rcases open_ints Tryz.underlying54 Tryz.underlying5 (by kernel_rfl) hf with ⟨hcs, _⟩ | ⟨x, len, cap, zs, hcs, _, hl, hm, hz, hx, hc, hw⟩
  · simp [Value.cells] at hcs
    obtain ⟨rfl, rfl, rfl⟩ := hcs
    exact ⟨[], rfl, ⟨none, 0, rfl, Nat.le_refl _, fun _ => rfl, fun h => by simp at h⟩, by simp, by have := Ex.bulk_pos d; simpa using this⟩
  · simp [Value.cells] at hcs
    obtain ⟨rfl, rfl, rfl⟩ := hcs
    have hzl : zs.length = c := by simpa using hz
    have hlt : (zs.take n).length = n := by simp; omega
    refine ⟨zs.take n, hlt.symm, ⟨some x, c, by rw [hlt], by omega, by simp, fun h0 => ?_⟩, fun z hzm => ?_, ?_⟩
    · obtain ⟨b, off, spot⟩ := x
      have h00 := hc 0 (by omega)
      have hspot : spot = none := by simpa [Addr.add] using World.cell?_spot h00
      subst hspot
      refine ⟨b, off, rfl, trivial, fun i hi => ?_⟩
      have := hc i (by omega)
      rw [addr_add] at this
      rw [this]; simp [List.getD, show i < n by omega]
    · exact bounds_u8 (hw z (List.mem_of_mem_take hzm))
    · have hx' : d = .slice (lits .u8 (zs.take n)) (lits .u8 (zs.drop n)) := congrArg Prod.fst hx
      rw [hx']
      have e : Rows.uptoBulk (DataW.slice (lits .u8 (zs.take n)) (lits .u8 (zs.drop n)) : DataW H) = Rows.uptoBulkAll (H := H) (lits .u8 (zs.take n)) + Rows.uptoBulkAll (H := H) (lits .u8 (zs.drop n)) + 1 := by rw [Rows.uptoBulk]
      have h2 := Ex.len_bulk (H := H) (lits .u8 (zs.take n))
      have h3 : (lits (H := H) .u8 (zs.take n)).length = (zs.take n).length := by simp [lits]
      rw [e]; omega
end Gm
end Go.Proofs.YtcpknafaocdjdaaGreatDoor

/- ValidIdle returns true for every list of kinds, every result and every body that together hold at most 1048576 values and letters, and leaves them: with a nop, a const and a drop ahead, and within a block of its result, the body of the module may run just if it may without, and its height is told. Of ops' tables and of errors.errorType it takes what the program's text lays (the card ties it). -/
namespace Go.Proofs.YtcpknafaocdjdaaGreatDoor.validIdle
open Go.ChangeShapes Go.WideShapes Go.ChangeAt Go.RowKit
set_option linter.unusedVariables false

theorem own : ownKnob Tryz.prog.godebug = none := by kernel_rfl
theorem laidOut : laidOutB Tryz.prog = true := by kernel_rfl

theorem walk (a0 : Option Addr) (c0 : Nat) (z0 : List Int) (a1 : Int) (a2 : Option Addr) (n2 c2 : Nat) (l2 : List Ex.Ins) (w : World) (hErr : ErrT w) (hTb : Tb w) (h0 : Ex.Lies (fun _ => True) z0.length (Gm.Byts w z0) (.slice a0 z0.length c0)) (f0 : ∀ z ∈ z0, 0 ≤ z ∧ z ≤ 255) (b0 : z0.length ≤ 1048576) (w1 : (Lit.int .u8 a1).wf = true) (h2 : Ex.Code w (fun _ => True) l2 (.slice a2 n2 c2)) (f2 : Ex.Wf l2) (b2 : Ex.wt l2 ≤ 1048576) :
    Calls Tryz.prog 5 #[.slice a0 z0.length c0, .int .u8 a1, .slice a2 n2 c2] w fun e w' => e = .returned (.bool true) ∧ Below w.heap.size w w' := by
  exact Vw.idle_walk hTb hErr h0 f0 b0 (by have := bounds_u8 w1; omega) h2 f2 b2

noncomputable def laidWorld (os : Os) : World := ({ World.holding Tryz.prog os ⟨#[], #[], []⟩ with heap := (((((((World.holding Tryz.prog os ⟨#[], #[], []⟩).heap.modify 0 fun | .cells _ t frozen => .cells #[.iface 182 (.agg #[.pointer (some ⟨6, 44, none⟩)])] t frozen | o => o).modify 3 fun | .cells _ t frozen => .cells #[.string ⟨#[117, 110, 114, 101, 97, 99, 104, 97, 98, 108, 101]⟩, .string ⟨#[110, 111, 112]⟩, .string ⟨#[98, 108, 111, 99, 107]⟩, .string ⟨#[108, 111, 111, 112]⟩, .string ⟨#[105, 102]⟩, .string ⟨#[]⟩, .string ⟨#[]⟩, .string ⟨#[]⟩, .string ⟨#[]⟩, .string ⟨#[]⟩, .string ⟨#[]⟩, .string ⟨#[]⟩, .string ⟨#[98, 114]⟩, .string ⟨#[98, 114, 95, 105, 102]⟩, .string ⟨#[98, 114, 95, 116, 97, 98, 108, 101]⟩, .string ⟨#[114, 101, 116, 117, 114, 110]⟩, .string ⟨#[99, 97, 108, 108]⟩, .string ⟨#[99, 97, 108, 108, 95, 105, 110, 100, 105, 114, 101, 99, 116]⟩, .string ⟨#[]⟩, .string ⟨#[]⟩, .string ⟨#[]⟩, .string ⟨#[]⟩, .string ⟨#[]⟩, .string ⟨#[]⟩, .string ⟨#[]⟩, .string ⟨#[]⟩, .string ⟨#[100, 114, 111, 112]⟩, .string ⟨#[115, 101, 108, 101, 99, 116]⟩, .string ⟨#[]⟩, .string ⟨#[]⟩, .string ⟨#[]⟩, .string ⟨#[]⟩, .string ⟨#[108, 111, 99, 97, 108, 46, 103, 101, 116]⟩, .string ⟨#[108, 111, 99, 97, 108, 46, 115, 101, 116]⟩, .string ⟨#[108, 111, 99, 97, 108, 46, 116, 101, 101]⟩, .string ⟨#[103, 108, 111, 98, 97, 108, 46, 103, 101, 116]⟩, .string ⟨#[103, 108, 111, 98, 97, 108, 46, 115, 101, 116]⟩, .string ⟨#[]⟩, .string ⟨#[]⟩, .string ⟨#[]⟩, .string ⟨#[105, 51, 50, 46, 108, 111, 97, 100]⟩, .string ⟨#[105, 54, 52, 46, 108, 111, 97, 100]⟩, .string ⟨#[]⟩, .string ⟨#[]⟩, .string ⟨#[105, 51, 50, 46, 108, 111, 97, 100, 56, 95, 115]⟩, .string ⟨#[105, 51, 50, 46, 108, 111, 97, 100, 56, 95, 117]⟩, .string ⟨#[105, 51, 50, 46, 108, 111, 97, 100, 49, 54, 95, 115]⟩, .string ⟨#[105, 51, 50, 46, 108, 111, 97, 100, 49, 54, 95, 117]⟩, .string ⟨#[105, 54, 52, 46, 108, 111, 97, 100, 56, 95, 115]⟩, .string ⟨#[105, 54, 52, 46, 108, 111, 97, 100, 56, 95, 117]⟩, .string ⟨#[105, 54, 52, 46, 108, 111, 97, 100, 49, 54, 95, 115]⟩, .string ⟨#[105, 54, 52, 46, 108, 111, 97, 100, 49, 54, 95, 117]⟩, .string ⟨#[105, 54, 52, 46, 108, 111, 97, 100, 51, 50, 95, 115]⟩, .string ⟨#[105, 54, 52, 46, 108, 111, 97, 100, 51, 50, 95, 117]⟩, .string ⟨#[105, 51, 50, 46, 115, 116, 111, 114, 101]⟩, .string ⟨#[105, 54, 52, 46, 115, 116, 111, 114, 101]⟩, .string ⟨#[]⟩, .string ⟨#[]⟩, .string ⟨#[105, 51, 50, 46, 115, 116, 111, 114, 101, 56]⟩, .string ⟨#[105, 51, 50, 46, 115, 116, 111, 114, 101, 49, 54]⟩, .string ⟨#[105, 54, 52, 46, 115, 116, 111, 114, 101, 56]⟩, .string ⟨#[105, 54, 52, 46, 115, 116, 111, 114, 101, 49, 54]⟩, .string ⟨#[105, 54, 52, 46, 115, 116, 111, 114, 101, 51, 50]⟩, .string ⟨#[109, 101, 109, 111, 114, 121, 46, 115, 105, 122, 101]⟩, .string ⟨#[109, 101, 109, 111, 114, 121, 46, 103, 114, 111, 119]⟩, .string ⟨#[105, 51, 50, 46, 99, 111, 110, 115, 116]⟩, .string ⟨#[105, 54, 52, 46, 99, 111, 110, 115, 116]⟩] t frozen | o => o).modify 4 fun | .cells _ t frozen => .cells #[.string ⟨#[105, 51, 50, 46, 101, 113, 122]⟩, .string ⟨#[105, 51, 50, 46, 101, 113]⟩, .string ⟨#[105, 51, 50, 46, 110, 101]⟩, .string ⟨#[105, 51, 50, 46, 108, 116, 95, 115]⟩, .string ⟨#[105, 51, 50, 46, 108, 116, 95, 117]⟩, .string ⟨#[105, 51, 50, 46, 103, 116, 95, 115]⟩, .string ⟨#[105, 51, 50, 46, 103, 116, 95, 117]⟩, .string ⟨#[105, 51, 50, 46, 108, 101, 95, 115]⟩, .string ⟨#[105, 51, 50, 46, 108, 101, 95, 117]⟩, .string ⟨#[105, 51, 50, 46, 103, 101, 95, 115]⟩, .string ⟨#[105, 51, 50, 46, 103, 101, 95, 117]⟩, .string ⟨#[105, 54, 52, 46, 101, 113, 122]⟩, .string ⟨#[105, 54, 52, 46, 101, 113]⟩, .string ⟨#[105, 54, 52, 46, 110, 101]⟩, .string ⟨#[105, 54, 52, 46, 108, 116, 95, 115]⟩, .string ⟨#[105, 54, 52, 46, 108, 116, 95, 117]⟩, .string ⟨#[105, 54, 52, 46, 103, 116, 95, 115]⟩, .string ⟨#[105, 54, 52, 46, 103, 116, 95, 117]⟩, .string ⟨#[105, 54, 52, 46, 108, 101, 95, 115]⟩, .string ⟨#[105, 54, 52, 46, 108, 101, 95, 117]⟩, .string ⟨#[105, 54, 52, 46, 103, 101, 95, 115]⟩, .string ⟨#[105, 54, 52, 46, 103, 101, 95, 117]⟩] t frozen | o => o).modify 5 fun | .cells _ t frozen => .cells #[.string ⟨#[105, 51, 50, 46, 99, 108, 122]⟩, .string ⟨#[105, 51, 50, 46, 99, 116, 122]⟩, .string ⟨#[105, 51, 50, 46, 112, 111, 112, 99, 110, 116]⟩, .string ⟨#[105, 51, 50, 46, 97, 100, 100]⟩, .string ⟨#[105, 51, 50, 46, 115, 117, 98]⟩, .string ⟨#[105, 51, 50, 46, 109, 117, 108]⟩, .string ⟨#[105, 51, 50, 46, 100, 105, 118, 95, 115]⟩, .string ⟨#[105, 51, 50, 46, 100, 105, 118, 95, 117]⟩, .string ⟨#[105, 51, 50, 46, 114, 101, 109, 95, 115]⟩, .string ⟨#[105, 51, 50, 46, 114, 101, 109, 95, 117]⟩, .string ⟨#[105, 51, 50, 46, 97, 110, 100]⟩, .string ⟨#[105, 51, 50, 46, 111, 114]⟩, .string ⟨#[105, 51, 50, 46, 120, 111, 114]⟩, .string ⟨#[105, 51, 50, 46, 115, 104, 108]⟩, .string ⟨#[105, 51, 50, 46, 115, 104, 114, 95, 115]⟩, .string ⟨#[105, 51, 50, 46, 115, 104, 114, 95, 117]⟩, .string ⟨#[105, 51, 50, 46, 114, 111, 116, 108]⟩, .string ⟨#[105, 51, 50, 46, 114, 111, 116, 114]⟩, .string ⟨#[105, 54, 52, 46, 99, 108, 122]⟩, .string ⟨#[105, 54, 52, 46, 99, 116, 122]⟩, .string ⟨#[105, 54, 52, 46, 112, 111, 112, 99, 110, 116]⟩, .string ⟨#[105, 54, 52, 46, 97, 100, 100]⟩, .string ⟨#[105, 54, 52, 46, 115, 117, 98]⟩, .string ⟨#[105, 54, 52, 46, 109, 117, 108]⟩, .string ⟨#[105, 54, 52, 46, 100, 105, 118, 95, 115]⟩, .string ⟨#[105, 54, 52, 46, 100, 105, 118, 95, 117]⟩, .string ⟨#[105, 54, 52, 46, 114, 101, 109, 95, 115]⟩, .string ⟨#[105, 54, 52, 46, 114, 101, 109, 95, 117]⟩, .string ⟨#[105, 54, 52, 46, 97, 110, 100]⟩, .string ⟨#[105, 54, 52, 46, 111, 114]⟩, .string ⟨#[105, 54, 52, 46, 120, 111, 114]⟩, .string ⟨#[105, 54, 52, 46, 115, 104, 108]⟩, .string ⟨#[105, 54, 52, 46, 115, 104, 114, 95, 115]⟩, .string ⟨#[105, 54, 52, 46, 115, 104, 114, 95, 117]⟩, .string ⟨#[105, 54, 52, 46, 114, 111, 116, 108]⟩, .string ⟨#[105, 54, 52, 46, 114, 111, 116, 114]⟩] t frozen | o => o).modify 1 fun | .cells _ t frozen => .cells #[.int .u8 0, .int .u8 1, .int .i64 0, .int .u8 0, .int .u8 0, .int .u8 0, .int .u8 2, .int .u8 3, .int .i64 6, .int .u8 0, .int .u8 0, .int .u8 0, .int .u8 4, .int .u8 4, .int .i64 7, .int .u8 0, .int .u8 0, .int .u8 0, .int .u8 12, .int .u8 13, .int .i64 3, .int .u8 0, .int .u8 0, .int .u8 0, .int .u8 14, .int .u8 14, .int .i64 8, .int .u8 0, .int .u8 0, .int .u8 0, .int .u8 15, .int .u8 15, .int .i64 0, .int .u8 0, .int .u8 0, .int .u8 0, .int .u8 16, .int .u8 16, .int .i64 3, .int .u8 0, .int .u8 0, .int .u8 0, .int .u8 17, .int .u8 17, .int .i64 9, .int .u8 0, .int .u8 0, .int .u8 0, .int .u8 26, .int .u8 27, .int .i64 0, .int .u8 0, .int .u8 0, .int .u8 0, .int .u8 32, .int .u8 36, .int .i64 3, .int .u8 0, .int .u8 0, .int .u8 0, .int .u8 40, .int .u8 40, .int .i64 4, .int .u8 127, .int .u8 0, .int .u8 127, .int .u8 41, .int .u8 41, .int .i64 4, .int .u8 127, .int .u8 0, .int .u8 126, .int .u8 44, .int .u8 47, .int .i64 4, .int .u8 127, .int .u8 0, .int .u8 127, .int .u8 48, .int .u8 53, .int .i64 4, .int .u8 127, .int .u8 0, .int .u8 126, .int .u8 54, .int .u8 54, .int .i64 4, .int .u8 127, .int .u8 127, .int .u8 0, .int .u8 55, .int .u8 55, .int .i64 4, .int .u8 127, .int .u8 126, .int .u8 0, .int .u8 58, .int .u8 59, .int .i64 4, .int .u8 127, .int .u8 127, .int .u8 0, .int .u8 60, .int .u8 62, .int .i64 4, .int .u8 127, .int .u8 126, .int .u8 0, .int .u8 63, .int .u8 63, .int .i64 5, .int .u8 0, .int .u8 0, .int .u8 127, .int .u8 64, .int .u8 64, .int .i64 5, .int .u8 127, .int .u8 0, .int .u8 127, .int .u8 65, .int .u8 65, .int .i64 1, .int .u8 0, .int .u8 0, .int .u8 127, .int .u8 66, .int .u8 66, .int .i64 2, .int .u8 0, .int .u8 0, .int .u8 126, .int .u8 69, .int .u8 69, .int .i64 0, .int .u8 127, .int .u8 0, .int .u8 127, .int .u8 70, .int .u8 79, .int .i64 0, .int .u8 127, .int .u8 127, .int .u8 127, .int .u8 80, .int .u8 80, .int .i64 0, .int .u8 126, .int .u8 0, .int .u8 127, .int .u8 81, .int .u8 90, .int .i64 0, .int .u8 126, .int .u8 126, .int .u8 127, .int .u8 103, .int .u8 105, .int .i64 0, .int .u8 127, .int .u8 0, .int .u8 127, .int .u8 106, .int .u8 120, .int .i64 0, .int .u8 127, .int .u8 127, .int .u8 127, .int .u8 121, .int .u8 123, .int .i64 0, .int .u8 126, .int .u8 0, .int .u8 126, .int .u8 124, .int .u8 138, .int .i64 0, .int .u8 126, .int .u8 126, .int .u8 126, .int .u8 167, .int .u8 167, .int .i64 0, .int .u8 126, .int .u8 0, .int .u8 127, .int .u8 172, .int .u8 173, .int .i64 0, .int .u8 127, .int .u8 0, .int .u8 126] t frozen | o => o).modify 2 fun | .cells _ t frozen => .cells #[.int .u8 0, .int .u8 0, .int .u8 0, .int .u8 0, .int .u8 0, .int .u8 0, .int .u8 0, .int .u8 0, .int .u8 0, .int .u8 0, .int .u8 0, .int .u8 0, .int .u8 0, .int .u8 0, .int .u8 0, .int .u8 0, .int .u8 0, .int .u8 0, .int .u8 0, .int .u8 0, .int .u8 0, .int .u8 0, .int .u8 0, .int .u8 0, .int .u8 0, .int .u8 0, .int .u8 0, .int .u8 0, .int .u8 0, .int .u8 0, .int .u8 0, .int .u8 0, .int .u8 0, .int .u8 0, .int .u8 0, .int .u8 0, .int .u8 0, .int .u8 0, .int .u8 0, .int .u8 0, .int .u8 4, .int .u8 8, .int .u8 0, .int .u8 0, .int .u8 1, .int .u8 1, .int .u8 2, .int .u8 2, .int .u8 1, .int .u8 1, .int .u8 2, .int .u8 2, .int .u8 4, .int .u8 4, .int .u8 4, .int .u8 8, .int .u8 0, .int .u8 0, .int .u8 1, .int .u8 2, .int .u8 1, .int .u8 2, .int .u8 4] t frozen | o => o) } : World)
set_option maxRecDepth 100000 in
theorem laid_met (os : Os) : laidMetH Tryz.prog Rows.validIdleUptoRow.laid ((laidWorld os).forCall (fun _ _ => 0) ⟨#[], #[.slice none 0 0, .int .u8 0, .slice none 0 0], []⟩).memory :=
  laidMetH_of_parts (laidMet_of_run' 8 (by kernel_rfl) (by kernel_rfl)) (by kernel_rfl)
set_option maxRecDepth 100000 in
theorem reads (os : Os) {H : Type} (enc : TypeId × Value → H) : ∃ places, DataW.whole enc Tryz.prog ((laidWorld os).forCall (fun _ _ => 0) ⟨#[], #[.slice none 0 0, .int .u8 0, .slice none 0 0], []⟩).memory Tryz.f5.params.toList Rows.validIdleSpec.vars false (#[.slice none 0 0, .int .u8 0, .slice none 0 0] : Array Value).toList 8 = some ([.nil, .lit (.int .u8 0), .nil], [], places) :=
  ⟨[], by kernel_rfl⟩

set_option maxRecDepth 100000 in
theorem contract (H : Type) (enc : TypeId × Value → H) (W : World) (base : Nat) (args : Array Value) (ds gs : List (DataW H)) (before : List MemPlace)
    (hval0 : ∀ (j : Nat) t v, Tryz.f5.params[j]? = some t → args[j]? = some v → Value.okWide Tryz.prog W .any base t v)
    (hW : DataW.Whole enc Tryz.prog Tryz.f5.params.toList Rows.validIdleSpec.vars false W args.toList ds gs before) (hL : laidMetH Tryz.prog Rows.validIdleUptoRow.laid W) (hk0 : Rows.uptoSmall H (ds ++ gs) = true) :
    Calls Tryz.prog 5 args W fun e W' => ∃ v, e = .returned v ∧ Rows.validIdleSpec.post enc Tryz.prog Tryz.f5 false true false false W args v W' := by
  have hLL : laidMet Tryz.prog [("mandrel/ops.names", Rows.laid_mandrel_ops_names), ("mandrel/ops.testNames", Rows.laid_mandrel_ops_testNames), ("mandrel/ops.reckonNames", Rows.laid_mandrel_ops_reckonNames), ("mandrel/ops.families", Rows.laid_mandrel_ops_families), ("mandrel/ops.accessBytes", Rows.laid_mandrel_ops_accessBytes)] W ∧ handlesMet Tryz.prog [("errors.errorType", Rows.laid_errors_errorType)] W := hL
  have hg : ErrT W := handle_of_met hLL.2
  have hgTb : Tb W := ⟨⟨names_laid hLL.1, tests_laid hLL.1.tail, reckons_laid hLL.1.tail.tail⟩, families_laid hLL.1.tail.tail.tail, access_laid hLL.1.tail.tail.tail.tail⟩
  have hval : ∀ (j : Nat) t v, Tryz.f5.params[j]? = some t → args[j]? = some v → Value.okWide Tryz.prog W .any base t v := hval0
  have hk1 := Ex.small_of hk0
  have hW' := hW
  obtain ⟨p, q, hA0, hV, rfl, hfz, hnd⟩ := hW
  have hA : DataW.TrodAll enc Tryz.prog W 0 (fun _ => true) true Tryz.f5.params.toList args.toList ds p := hA0
  rw [Tryz.params5] at hA hval
  obtain ⟨v0, vs0, d0, ds0, p0, q0, hargs, rfl, rfl, h0, r0⟩ := trodAll_cons hA
  obtain ⟨v1, vs1, d1, ds1, p1, q1, rfl, rfl, rfl, h1, r1⟩ := trodAll_cons r0
  obtain ⟨v2, vs2, d2, ds2, p2, q2, rfl, rfl, rfl, h2, r2⟩ := trodAll_cons r1
  obtain ⟨rfl, rfl, rfl⟩ := trodAll_nil r2
  obtain rfl : args = #[v0, v1, v2] := by cases args; simp_all
  obtain ⟨rfl, rfl⟩ := trodVars_none hV
  have hk : Rows.uptoBulkAll [d0, d1, d2] ≤ 1048576 := hk1
  have m0 := h0
  have lt0 : ∀ x ∈ p0, x.block < W.heap.size := by obtain ⟨m, hm⟩ := m0; exact DataW.trod_lt m _ _ _ hm
  obtain ⟨a0, n0, c0, rfl⟩ := okWide_slice Tryz.underlying54 (hval 0 54 v0 rfl rfl)
  obtain ⟨z0, rfl, h0c, f0, b0'⟩ := Gm.open_u8s h0
  have b0 : z0.length ≤ 1048576 := by have := (Nat.le_trans (Ex.bulk_at (ds := _) (i := 0) rfl) hk); omega
  obtain ⟨a1, rfl, rfl, rfl, w1⟩ := open_int Tryz.underlying5 (hval 1 5 v1 rfl rfl) h1
  have m2 := h2
  have lt2 : ∀ x ∈ p2, x.block < W.heap.size := by obtain ⟨m, hm⟩ := m2; exact DataW.trod_lt m _ _ _ hm
  obtain ⟨a2, n2, c2, rfl⟩ := okWide_slice Tryz.underlying55 (hval 2 55 v2 rfl rfl)
  obtain ⟨l2, h2c, f2, b2'⟩ := Ex.open_arg h2
  have b2 : Ex.wt l2 ≤ 1048576 := Nat.le_trans b2' (Nat.le_trans (Ex.bulk_at (ds := _) (i := 2) rfl) hk)
  clear hA0 hval0
  refine (walk a0 c0 z0 a1 a2 n2 c2 l2 W hg hgTb h0c f0 b0 w1 h2c f2 b2).mono fun e W' ⟨he, bel⟩ => ?_
  subst he
  exact ⟨_, rfl, _, _, _, [], _, [], hW', trodAll_mk1 (shut_bool Tryz.underlying4 _), (trodAll_cons_mk (Below.trod laidOut (by kernel_rfl) (of_decide_eq_true (by kernel_rfl)) m0 bel lt0) (trodAll_cons_mk (shut_int Tryz.underlying5 w1) (trodAll_cons_mk (Below.trod laidOut (by kernel_rfl) (of_decide_eq_true (by kernel_rfl)) m2 bel lt2) trodAll_mk0))), rfl, bel.frame _, fun h => by cases h⟩

set_option maxRecDepth 100000 in
theorem lifted (os : Os) (started : os.Started) (H : Type) (enc : TypeId × Value → H) (F : Stop.Interp) :
    ReturnsInHanded {} Tryz.checked os 5 .any ((Rows.OpenSpec.upto Rows.validIdleSpec).preRow enc Tryz.prog Tryz.f5 Rows.validIdleUptoRow.domain false Rows.validIdleUptoRow.laid) (((Rows.OpenSpec.upto Rows.validIdleSpec).at F).post enc Tryz.prog Tryz.f5 false true false false) := by
  obtain ⟨places, hx⟩ := reads os enc
  refine returnsInHanded_of_row (C := Tryz.checked) (s := Rows.OpenSpec.upto Rows.validIdleSpec) own started (by kernel_rfl) Tryz.func5
    (witness_row_at (enc := enc) (C := Tryz.checked) false (laidWorld os) #[.slice none 0 0, .int .u8 0, .slice none 0 0] rfl (by kernel_rfl) (by kernel_rfl) (by kernel_rfl)
      (OpenSpec.preRow_of_cond 8 hx (by kernel_rfl) (fun k hk => by cases hk; kernel_rfl) (by kernel_rfl) (laid_met os))) ?_
  intro W base args ds gs before hval hW _ hcond _ hL _ _
  exact contract H enc W base args ds gs before hval hW hL (hcond _ rfl)

theorem proved : Rows.ValidIdleUptoSaid :=
  OpenClaim.holds_of_cond 5 Tryz.f5 rfl rfl rfl rfl rfl rfl rfl ⟨rfl, rfl, rfl, rfl, rfl⟩ rfl rfl rfl rfl rfl (by kernel_rfl) Tryz.func5 (by kernel_rfl)
    (of_decide_eq_true (by kernel_rfl)) (by unfold Func.isWrapper; first | (rw [if_pos (by decide +kernel)]; kernel_rfl) | (rw [if_neg (by decide +kernel)]; exact ⟨rfl, rfl⟩))
    (fun os started H enc _ F => by rw [OpenClaim.pre_eq_preRow]; exact lifted os started H enc F)
end Go.Proofs.YtcpknafaocdjdaaGreatDoor.validIdle

namespace Go.Proofs.YtcpknafaocdjdaaGreatDoor
theorem validIdle_upto_card : Rows.ValidIdleUptoCardSaid :=
  Claim7.holds_tied_plain_at .later [] _ _ _ _ validIdle.proved (fun _ h => by cases h) (by kernel_rfl) (fun _ h => by cases h) validIdleUpto_row_tie rfl ⟨rfl, rfl⟩ (by kernel_rfl) rfl
    (fun f fn hf hfn => by
      obtain rfl : 5 = f := Option.some.inj (Eq.trans (by kernel_rfl) hf)
      obtain rfl : fn = Tryz.f5 := (Option.some.inj (Tryz.func5.symm.trans hfn)).symm
      exact ⟨by kernel_rfl, fun j t ht => by
        rw [Tryz.params5] at ht
        rcases j with _ | _ | _ | j
        · obtain rfl : t = 54 := by simpa using ht.symm
          exact (show Tryz.prog.wantsStandIn 54 = false by kernel_rfl)
        · obtain rfl : t = 5 := by simpa using ht.symm
          exact (show Tryz.prog.wantsStandIn 5 = false by kernel_rfl)
        · obtain rfl : t = 55 := by simpa using ht.symm
          exact (show Tryz.prog.wantsStandIn 55 = false by kernel_rfl)
        · simp at ht⟩)
    (by kernel_rfl)
end Go.Proofs.YtcpknafaocdjdaaGreatDoor
