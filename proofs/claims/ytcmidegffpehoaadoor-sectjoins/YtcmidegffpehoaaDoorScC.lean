/- mayFollow, judgeContents, bytes.Clone. -/
import Derived.Test.YtcmidegffpehoaaDoorScT
import Derived.Test.YtcmidegffpehoaaDoorScB
import Derived.Test.YtcmidegffpehoaaDoorAppRow
namespace Go.Proofs.YtcmidegffpehoaaDoor
open Go.RowKit
namespace Sc
set_option linter.unusedVariables false

theorem errV_pos {k : Int} (h : ¬ k = 0) : errV k = .iface 57 (.int .i64 k) := by simp [errV, h]
theorem mf_any (id top : Int) (w : World) (h0 : 0 ≤ id) (h1 : id ≤ 255) (h2 : 0 ≤ top) (h3 : top ≤ 255) :
    Calls Tryd.prog 23 #[.int .u8 id, .int .u8 top] w fun e w' => e = .returned (.bool (mf id top)) ∧ w = w' := by
  unfold mf
  by_cases c0 : id = 0
  · subst c0
    go_enter Tryd.func23, Tryd.ntmps23
    go_wp2
    go_ret
    exact ⟨rfl, rfl⟩
  · have c0b : (id == 0) = false := by simp [c0]
    by_cases c1 : top < id
    · by_cases c2 : id ≤ 11
      · have e : decide (id = 0 ∨ (top < id ∧ id ≤ 11)) = true := decide_eq_true (.inr ⟨c1, c2⟩)
        rw [e]; clear e
        go_enter Tryd.func23, Tryd.ntmps23
        go_wp2
        go_ret
        exact ⟨rfl, rfl⟩
      · have e : decide (id = 0 ∨ (top < id ∧ id ≤ 11)) = false := decide_eq_false (by omega)
        rw [e]; clear e
        go_enter Tryd.func23, Tryd.ntmps23
        go_wp2
        go_ret
        exact ⟨rfl, rfl⟩
    · have e : decide (id = 0 ∨ (top < id ∧ id ≤ 11)) = false := decide_eq_false (by omega)
      rw [e]; clear e
      go_enter Tryd.func23, Tryd.ntmps23
      go_wp2
      go_ret
      exact ⟨rfl, rfl⟩

theorem take_len {zs : List Int} {n k : Nat} (h : zs.length = n) (hk : k ≤ n) : (zs.take k).length = k := by rw [List.length_take, h]; omega
theorem row_dropc {w : World} {b o len : Nat} {zs : List Int} (h : Row w (some ⟨b, o, none⟩) len zs) (p : Nat) (hp : p ≤ len) : Row w (some ⟨b, o + p, none⟩) (len - p) (zs.drop p) := by
  by_cases h1 : p < len
  · exact row_drop h p h1
  · have e : len - p = 0 := by omega
    rw [e, List.drop_eq_nil_of_le (by rw [h.1]; omega)]
    exact row_none w _
set_option maxRecDepth 100000 in
set_option maxHeartbeats 1600000 in
theorem judge_any {a : Option Addr} {n cap : Nat} {cs : List Int} {w : World} (id : Int) (h0 : 0 ≤ id) (h1 : id ≤ 255) (h : Row w a n cs) (hc : n ≤ cap) (hn : n ≤ 1099511627776) (hT : U8 w) :
    Calls Tryd.prog 24 #[.int .u8 id, .slice a n cap] w fun e w' => e = .returned (errV (judge id cs)) ∧ Below w.heap.size w w' := by
  unfold judge
  by_cases c0 : id = 0
  · subst c0
    rw [if_pos rfl]
    have ht := takeU_b a n cap cs 32 w h hc (by omega)
    have hl := h.1
    by_cases he : Leb.tuE cs 32 = 0
    · have hv := tuV_32 h.2.1 he
      have hb := tu_bd _ _ he
      rw [if_pos he]
      rw [he, errV_0] at ht
      obtain ⟨N, hN⟩ : ∃ N : Nat, (Leb.tuN cs 32).toNat = N := ⟨_, rfl⟩
      have hNz : Leb.tuN cs 32 = (N : Int) := by omega
      obtain ⟨V, hV⟩ : ∃ V : Nat, (Leb.tuV cs 32).toNat = V := ⟨_, rfl⟩
      have hVz : Leb.tuV cs 32 = (V : Int) := by omega
      rw [hNz, hVz] at ht ⊢
      rw [Int.toNat_natCast, Int.toNat_natCast, hl]
      have hVb : (V : Int) < 4294967296 := by omega
      have hNn : N ≤ n := by omega
      have hNz2 : (N : Int) ≤ (n : Int) := by omega
      have hr := row_from h N (by omega)
      have HR := hide hr; have HH := hide h; have HT := hide hT; have HTk := hide ht
      clear h hT ht hv hb he hN hNz hV hVz hl hr
      by_cases hf : N < n
      · by_cases hs : (n : Int) - N < V
        · rw [if_pos hs]
          have hs2 : ((n - N : Nat) : Int) < (V : Int) := by omega
          clear hs
          go_enter Tryd.func24, Tryd.ntmps24
          go_wp2_with fail
          refine (unhide HTk).mono ?_
          rintro e w1 ⟨rfl, hb1⟩
          have HB := hide hb1; clear hb1
          go_wp2
          all_goals (go_ret; exact ⟨by rw [errV_6]; rfl, unhide HB⟩)
        · rw [if_neg hs]
          have hs2 : ¬ ((n - N : Nat) : Int) < (V : Int) := by omega
          have hs3 : (V : Int) ≤ ((n - N : Nat) : Int) := by omega
          have hs4 : (V : Int) ≤ ((cap - N : Nat) : Int) := by omega
          clear hs
          have hr := (unhide HR).take V (by omega)
          have hx := fun w' (hb : Below w.heap.size w w') => text_any (cap := cap - N) (hr.below (Nat.le_refl _) hb) (by omega) (by omega) (Utf8Tabs_below (unhide HT) hb)
          have HX := hide hx; clear hx hr
          have hk9 : ((n - N : Nat) : Int) ≤ 1099511627776 := by omega
          cases hvd : vd ((cs.drop N).take V) with
          | true =>
            rw [hvd] at HX
            rw [if_pos rfl, errV_0]
            clear hvd
            go_enter Tryd.func24, Tryd.ntmps24
            go_wp2_with fail
            refine (unhide HTk).mono ?_
            rintro e w1 ⟨rfl, hb1⟩
            have HB := hide hb1; clear hb1
            go_upto_region 7 with fail
            generalize Option.map (fun x => x.add N) a = a2 at HX ⊢
            generalize n - N = k at hs2 hs3 hk9 ⊢
            generalize cap - N = c at HX hs4 ⊢
            clear hf hNn hNz2 hc hs2
            have hs5 : V ≤ k := by omega
            have hs6 : V ≤ c := by omega
            have hd : decide (k < V) = false := decide_eq_false (by omega)
            clear hs3 hs4
            go_wp2_with fail
            refine (unhide HX _ (unhide HB)).mono ?_
            rintro e w2 ⟨rfl, hb2⟩
            have HB2 := hide hb2; clear hb2 hs6 hd hVb hk9 hn HX HTk HR HH HT h0 h1
            go_wp2
            go_ret
            exact ⟨rfl, Below.on (unhide HB) (unhide HB2)⟩
          | false =>
            rw [hvd] at HX
            rw [if_neg (by decide), errV_6]
            clear hvd
            go_enter Tryd.func24, Tryd.ntmps24
            go_wp2_with fail
            refine (unhide HTk).mono ?_
            rintro e w1 ⟨rfl, hb1⟩
            have HB := hide hb1; clear hb1
            go_upto_region 7 with fail
            generalize Option.map (fun x => x.add N) a = a2 at HX ⊢
            generalize n - N = k at hs2 hs3 hk9 ⊢
            generalize cap - N = c at HX hs4 ⊢
            clear hf hNn hNz2 hc hs2
            have hs5 : V ≤ k := by omega
            have hs6 : V ≤ c := by omega
            have hd : decide (k < V) = false := decide_eq_false (by omega)
            clear hs3 hs4
            go_wp2_with fail
            refine (unhide HX _ (unhide HB)).mono ?_
            rintro e w2 ⟨rfl, hb2⟩
            have HB2 := hide hb2; clear hb2 hs6 hd hVb hk9 hn HX HTk HR HH HT h0 h1
            go_wp2
            go_ret
            exact ⟨rfl, Below.on (unhide HB) (unhide HB2)⟩
      · obtain rfl : n = N := by omega
        clear hf hNn hNz2
        by_cases hf : n < cap
        · by_cases hs : V = 0
          · subst hs
            rw [if_neg (by omega), show (cs.drop n).take 0 = [] from rfl, vd_nil, if_pos rfl, errV_0]
            have hx := fun w' (hb : Below w.heap.size w w') => text_any (n := 0) (cap := cap - n) (row_none w' (Option.map (fun x => x.add n) a)) (by omega) (by omega) (Utf8Tabs_below (unhide HT) hb)
            rw [vd_nil] at hx
            have HX := hide hx; clear hx
            go_enter Tryd.func24, Tryd.ntmps24
            go_wp2_with fail
            refine (unhide HTk).mono ?_
            rintro e w1 ⟨rfl, hb1⟩
            have HB := hide hb1; clear hb1
            go_wp2_with fail
            refine (unhide HX _ (unhide HB)).mono ?_
            rintro e w2 ⟨rfl, hb2⟩
            have HB2 := hide hb2; clear hb2
            go_wp2
            go_ret
            exact ⟨rfl, Below.on (unhide HB) (unhide HB2)⟩
          · rw [if_pos (by omega)]
            go_enter Tryd.func24, Tryd.ntmps24
            go_wp2_with fail
            refine (unhide HTk).mono ?_
            rintro e w1 ⟨rfl, hb1⟩
            have HB := hide hb1; clear hb1
            go_wp2
            all_goals (go_ret; exact ⟨by rw [errV_6]; rfl, unhide HB⟩)
        · obtain rfl : cap = n := by omega
          clear hf hc
          by_cases hs : V = 0
          · subst hs
            rw [if_neg (by omega), show (cs.drop cap).take 0 = [] from rfl, vd_nil, if_pos rfl, errV_0]
            have hx := fun w' (hb : Below w.heap.size w w') => text_any (n := 0) (cap := 0) (row_none w' a) (by omega) (by omega) (Utf8Tabs_below (unhide HT) hb)
            rw [vd_nil] at hx
            have HX := hide hx; clear hx
            go_enter Tryd.func24, Tryd.ntmps24
            go_wp2_with fail
            refine (unhide HTk).mono ?_
            rintro e w1 ⟨rfl, hb1⟩
            have HB := hide hb1; clear hb1
            go_wp2_with fail
            refine (unhide HX _ (unhide HB)).mono ?_
            rintro e w2 ⟨rfl, hb2⟩
            have HB2 := hide hb2; clear hb2
            go_wp2
            go_ret
            exact ⟨rfl, Below.on (unhide HB) (unhide HB2)⟩
          · rw [if_pos (by omega)]
            go_enter Tryd.func24, Tryd.ntmps24
            go_wp2_with fail
            refine (unhide HTk).mono ?_
            rintro e w1 ⟨rfl, hb1⟩
            have HB := hide hb1; clear hb1
            go_wp2
            all_goals (go_ret; exact ⟨by rw [errV_6]; rfl, unhide HB⟩)
    · rw [if_neg he]
      rw [(tuV_no he).1, (tuV_no he).2, errV_pos he] at ht
      rw [errV_pos he]
      have HTk := hide ht
      generalize Leb.tuE cs 32 = E at *
      clear ht he h hT
      go_enter Tryd.func24, Tryd.ntmps24
      go_wp2_with fail
      refine (unhide HTk).mono ?_
      rintro e w1 ⟨rfl, hb1⟩
      have HB := hide hb1; clear hb1
      go_wp2
      go_ret
      exact ⟨rfl, unhide HB⟩
  · have c0b : (id == 0) = false := by simp [c0]
    rw [if_neg c0, errV_0]
    clear h hT
    go_enter Tryd.func24, Tryd.ntmps24
    go_wp2
    go_ret
    exact ⟨rfl, Below.refl _ _⟩
end Sc
end Go.Proofs.YtcmidegffpehoaaDoor
