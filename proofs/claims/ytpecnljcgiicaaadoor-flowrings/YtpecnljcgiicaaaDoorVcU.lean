/- slices.Clone of numbers, instructions, blocks. By mkvclone.py. -/
import Derived.Test.YtpecnljcgiicaaaDoorVcQ
import Derived.Lib.SliceRun
namespace Go.Proofs.YtpecnljcgiicaaaDoor
open Go.RowKit
namespace Vc
set_option linter.unusedVariables false

/-- what Clone gives: a row of the call's own that has the same cells -/
def CloP (w w' : World) (T : TypeId) (c n : Nat) (xs : List Value) (v : Value) : Prop :=
  (n = 0 ∧ w'.ownsRow w.heap.size T c v 0 []) ∨ (0 < n ∧ ∃ g cap, v = .slice (some ⟨g, 0, none⟩) n cap ∧ w'.ownsRow w.heap.size T c (.slice (some ⟨g, 0, none⟩) n cap) n xs)
theorem made0 (w : World) (T : TypeId) (c : Nat) : (w.alloc (.cells #[] T)).ownsRow w.heap.size T c (.slice (some ⟨w.heap.size, 0, none⟩) 0 0) 0 [] := World.ownsRow_made w #[] 0 (Nat.le_refl _) (by decide) (by simp)
theorem own0 {w : World} {B : Nat} {T : TypeId} {c : Nat} {v : Value} (h : w.ownsRow B T c v 0 []) : ∃ a cap, v = .slice a 0 cap ∧ (a = none → cap = 0) := by
  rcases h.2 with ⟨rfl, _⟩ | ⟨g, cap, cur, rfl, _⟩
  · exact ⟨none, 0, rfl, fun _ => rfl⟩
  · exact ⟨_, cap, rfl, fun h => by cases h⟩
theorem own_base {w : World} {B B' : Nat} {T : TypeId} {c : Nat} {v : Value} {n : Nat} {xs : List Value} (h : w.ownsRow B T c v n xs) (hB : B' ≤ B) : w.ownsRow B' T c v n xs := by
  refine ⟨h.1, ?_⟩
  rcases h.2 with h0 | ⟨g, cap, cur, e, hg, h5⟩
  · exact .inl h0
  · exact .inr ⟨g, cap, cur, e, Nat.le_trans hB hg, h5⟩
theorem infoN : (Tryd.prog.info? 3).map (fun i => (i.zero, i.size, i.bytes)) = some (some (.int .i64 0), 1, 8) := by kernel_rfl

set_option maxRecDepth 100000 in
set_option maxHeartbeats 1600000 in
theorem clN_any (n : Nat) (xs : List Value) (a : Option Addr) (cp : Nat) (w : World) (h0 : a = none → n = 0 ∧ cp = 0) (hx : xs.length = n * 1) (hce : ∀ ad, a = some ad → ∀ j u, xs[j]? = some u → w.cell? (ad.add j) = some u) (h1 : ∀ u ∈ xs, u.oneCell' = true) (hn : n ≤ 1099511627776) :
    Calls Tryd.prog 32 #[.slice a n cp] w fun e w' => ∃ v, e = .returned v ∧ CloP w w' 3 1 n xs v ∧ Below w.heap.size w w' := by
  obtain ⟨ii, hii, hi0, hi1, hi2⟩ := info_parts infoN
  cases a with
  | none =>
    obtain ⟨rfl, rfl⟩ := h0 rfl
    clear h0 hce hx h1 hn
    have hnl : ∀ W, (binOp .eql 26 (.slice none 0 0) (.slice none 0 0)).run Tryd.prog W = .ok (.bool true) W := fun W => Lib.run_eql_slice_nil W _ _ none _ _ _ _ Tryd.underlying26
    go_enter Tryd.func32, Tryd.ntmps32
    go_wp2
    go_ret
    exact ⟨_, rfl, .inl ⟨rfl, World.ownsRow_nil _ _ _ _⟩, Below.refl _ _⟩
  | some ad =>
    have hce' := hce ad rfl
    clear h0 hce
    have hnl : ∀ W, (binOp .eql 26 (.slice (some ad) n cp) (.slice none 0 0)).run Tryd.prog W = .ok (.bool false) W := fun W => Lib.run_eql_slice_nil W _ _ (some ad) _ _ _ _ Tryd.underlying26
    have hal := one_alloc w (.cells #[] 3)
    by_cases hn0 : n = 0
    · subst hn0
      have hxs : xs = [] := List.eq_nil_of_length_eq_zero (by omega)
      subst hxs
      have hm := made0 w 3 1
      have HM := hide hm; have HAl := hide hal
      clear hm hal hx hce' h1 hn
      go_enter Tryd.func32, Tryd.ntmps32
      go_wp2_with (at_builtin; refine wpList_append_own (w.alloc (.cells #[] 3)) rfl (.tmp 5) (.tmp 6) 26 rfl w.heap.size 3 ii (.int .i64 0) 1 8 Tryd.underlying26 hii hi0 hi1 hi2 rfl (by decide) (.slice (some ⟨w.heap.size, 0, none⟩) 0 0) 0 [] rfl (unhide HM) ad 0 cp [] rfl rfl (fun j u h => by simp at h) (fun u h => by simp at h) (by decide) (by decide) (by simp) ?_)
      intro v5 w5 hown hgrow hni
      have hB := (unhide HAl).grown hgrow (by simp) (fun k hk => by simp [Value.ownBlock] at hk; omega)
      have HOwn := hide hown
      obtain ⟨a5, c5, rfl⟩ := own_slice hown
      have HB := hide hB
      clear hown hgrow hB hni
      go_wp2
      go_ret
      exact ⟨_, rfl, .inl ⟨rfl, unhide HOwn⟩, unhide HB⟩
    · have hm := made0 w 3 1
      have hce2 : ∀ j u, xs[j]? = some u → (w.alloc (.cells #[] 3)).cell? (ad.add j) = some u := fun j u h => (hal.cell (block_lt_of_cell (hce' j u h))).trans (hce' j u h)
      have HM := hide hm; have HAl := hide hal; have HCe := hide hce2; have H1 := hide h1; have HX := hide hx
      clear hm hal hce2 hce' h1 hx
      go_enter Tryd.func32, Tryd.ntmps32
      go_wp2_with (at_builtin; refine wpList_append_lies (w.alloc (.cells #[] 3)) rfl (.tmp 5) (.tmp 6) 26 rfl w.heap.size 3 ii (.int .i64 0) 1 8 Tryd.underlying26 hii hi0 hi1 hi2 rfl (by decide) (.slice (some ⟨w.heap.size, 0, none⟩) 0 0) 0 [] rfl (unhide HM) ad n cp xs rfl (unhide HX) (unhide HCe) (unhide H1) (by omega) (by unfold maxLen; omega) (by omega) (by simp) (w.heap.size + 1) (by simp) ?_)
      intro g cap w5 hown hgrow hat hlt
      have hB := (unhide HAl).grown hgrow (by simp) (fun k hk => by simp [Value.ownBlock] at hk; omega)
      have HB := hide hB; have HOwn := hide hown
      clear hown hgrow hB hat hlt
      go_wp2
      go_ret
      exact ⟨_, rfl, .inr ⟨by omega, _, _, rfl, unhide HOwn⟩, unhide HB⟩

set_option maxRecDepth 100000 in
set_option maxHeartbeats 1600000 in
theorem clI_any (n : Nat) (xs : List Value) (a : Option Addr) (cp : Nat) (w : World) (h0 : a = none → n = 0 ∧ cp = 0) (hx : xs.length = n * 5) (hce : ∀ ad, a = some ad → ∀ j u, xs[j]? = some u → w.cell? (ad.add j) = some u) (h1 : ∀ u ∈ xs, u.oneCell' = true) (hn : n ≤ 1099511627776) :
    Calls Tryd.prog 54 #[.slice a n cp] w fun e w' => ∃ v, e = .returned v ∧ CloP w w' 29 5 n xs v ∧ Below w.heap.size w w' := by
  obtain ⟨ii, hii, hi0, hi1, hi2⟩ := info_parts infoIn
  cases a with
  | none =>
    obtain ⟨rfl, rfl⟩ := h0 rfl
    clear h0 hce hx h1 hn
    have hnl : ∀ W, (binOp .eql 30 (.slice none 0 0) (.slice none 0 0)).run Tryd.prog W = .ok (.bool true) W := fun W => Lib.run_eql_slice_nil W _ _ none _ _ _ _ Tryd.underlying30
    go_enter Tryd.func54, Tryd.ntmps54
    go_wp2
    go_ret
    exact ⟨_, rfl, .inl ⟨rfl, World.ownsRow_nil _ _ _ _⟩, Below.refl _ _⟩
  | some ad =>
    have hce' := hce ad rfl
    clear h0 hce
    have hnl : ∀ W, (binOp .eql 30 (.slice (some ad) n cp) (.slice none 0 0)).run Tryd.prog W = .ok (.bool false) W := fun W => Lib.run_eql_slice_nil W _ _ (some ad) _ _ _ _ Tryd.underlying30
    have hal := one_alloc w (.cells #[] 29)
    by_cases hn0 : n = 0
    · subst hn0
      have hxs : xs = [] := List.eq_nil_of_length_eq_zero (by omega)
      subst hxs
      have hm := made0 w 29 5
      have HM := hide hm; have HAl := hide hal
      clear hm hal hx hce' h1 hn
      go_enter Tryd.func54, Tryd.ntmps54
      go_wp2_with (at_builtin; refine wpList_append_own (w.alloc (.cells #[] 29)) rfl (.tmp 5) (.tmp 6) 30 rfl w.heap.size 29 ii (.agg #[.int .u8 0, .int .i64 0, .slice none 0 0, .int .i64 0, .int .u32 0]) 5 56 Tryd.underlying30 hii hi0 hi1 hi2 rfl (by decide) (.slice (some ⟨w.heap.size, 0, none⟩) 0 0) 0 [] rfl (unhide HM) ad 0 cp [] rfl rfl (fun j u h => by simp at h) (fun u h => by simp at h) (by decide) (by decide) (by simp) ?_)
      intro v5 w5 hown hgrow hni
      have hB := (unhide HAl).grown hgrow (by simp) (fun k hk => by simp [Value.ownBlock] at hk; omega)
      have HOwn := hide hown
      obtain ⟨a5, c5, rfl⟩ := own_slice hown
      have HB := hide hB
      clear hown hgrow hB hni
      go_wp2
      go_ret
      exact ⟨_, rfl, .inl ⟨rfl, unhide HOwn⟩, unhide HB⟩
    · have hm := made0 w 29 5
      have hce2 : ∀ j u, xs[j]? = some u → (w.alloc (.cells #[] 29)).cell? (ad.add j) = some u := fun j u h => (hal.cell (block_lt_of_cell (hce' j u h))).trans (hce' j u h)
      have HM := hide hm; have HAl := hide hal; have HCe := hide hce2; have H1 := hide h1; have HX := hide hx
      clear hm hal hce2 hce' h1 hx
      go_enter Tryd.func54, Tryd.ntmps54
      go_wp2_with (at_builtin; refine wpList_append_lies (w.alloc (.cells #[] 29)) rfl (.tmp 5) (.tmp 6) 30 rfl w.heap.size 29 ii (.agg #[.int .u8 0, .int .i64 0, .slice none 0 0, .int .i64 0, .int .u32 0]) 5 56 Tryd.underlying30 hii hi0 hi1 hi2 rfl (by decide) (.slice (some ⟨w.heap.size, 0, none⟩) 0 0) 0 [] rfl (unhide HM) ad n cp xs rfl (unhide HX) (unhide HCe) (unhide H1) (by omega) (by unfold maxLen; omega) (by omega) (by simp) (w.heap.size + 1) (by simp) ?_)
      intro g cap w5 hown hgrow hat hlt
      have hB := (unhide HAl).grown hgrow (by simp) (fun k hk => by simp [Value.ownBlock] at hk; omega)
      have HB := hide hB; have HOwn := hide hown
      clear hown hgrow hB hat hlt
      go_wp2
      go_ret
      exact ⟨_, rfl, .inr ⟨by omega, _, _, rfl, unhide HOwn⟩, unhide HB⟩

set_option maxRecDepth 100000 in
set_option maxHeartbeats 1600000 in
theorem clB_any (n : Nat) (xs : List Value) (a : Option Addr) (cp : Nat) (w : World) (h0 : a = none → n = 0 ∧ cp = 0) (hx : xs.length = n * 3) (hce : ∀ ad, a = some ad → ∀ j u, xs[j]? = some u → w.cell? (ad.add j) = some u) (h1 : ∀ u ∈ xs, u.oneCell' = true) (hn : n ≤ 1099511627776) :
    Calls Tryd.prog 37 #[.slice a n cp] w fun e w' => ∃ v, e = .returned v ∧ CloP w w' 32 3 n xs v ∧ Below w.heap.size w w' := by
  obtain ⟨ii, hii, hi0, hi1, hi2⟩ := info_parts infoBl
  cases a with
  | none =>
    obtain ⟨rfl, rfl⟩ := h0 rfl
    clear h0 hce hx h1 hn
    have hnl : ∀ W, (binOp .eql 23 (.slice none 0 0) (.slice none 0 0)).run Tryd.prog W = .ok (.bool true) W := fun W => Lib.run_eql_slice_nil W _ _ none _ _ _ _ Tryd.underlying23
    go_enter Tryd.func37, Tryd.ntmps37
    go_wp2
    go_ret
    exact ⟨_, rfl, .inl ⟨rfl, World.ownsRow_nil _ _ _ _⟩, Below.refl _ _⟩
  | some ad =>
    have hce' := hce ad rfl
    clear h0 hce
    have hnl : ∀ W, (binOp .eql 23 (.slice (some ad) n cp) (.slice none 0 0)).run Tryd.prog W = .ok (.bool false) W := fun W => Lib.run_eql_slice_nil W _ _ (some ad) _ _ _ _ Tryd.underlying23
    have hal := one_alloc w (.cells #[] 32)
    by_cases hn0 : n = 0
    · subst hn0
      have hxs : xs = [] := List.eq_nil_of_length_eq_zero (by omega)
      subst hxs
      have hm := made0 w 32 3
      have HM := hide hm; have HAl := hide hal
      clear hm hal hx hce' h1 hn
      go_enter Tryd.func37, Tryd.ntmps37
      go_wp2_with (at_builtin; refine wpList_append_own (w.alloc (.cells #[] 32)) rfl (.tmp 5) (.tmp 6) 23 rfl w.heap.size 32 ii (.agg #[.slice none 0 0, .slice none 0 0, .int .i64 0]) 3 56 Tryd.underlying23 hii hi0 hi1 hi2 rfl (by decide) (.slice (some ⟨w.heap.size, 0, none⟩) 0 0) 0 [] rfl (unhide HM) ad 0 cp [] rfl rfl (fun j u h => by simp at h) (fun u h => by simp at h) (by decide) (by decide) (by simp) ?_)
      intro v5 w5 hown hgrow hni
      have hB := (unhide HAl).grown hgrow (by simp) (fun k hk => by simp [Value.ownBlock] at hk; omega)
      have HOwn := hide hown
      obtain ⟨a5, c5, rfl⟩ := own_slice hown
      have HB := hide hB
      clear hown hgrow hB hni
      go_wp2
      go_ret
      exact ⟨_, rfl, .inl ⟨rfl, unhide HOwn⟩, unhide HB⟩
    · have hm := made0 w 32 3
      have hce2 : ∀ j u, xs[j]? = some u → (w.alloc (.cells #[] 32)).cell? (ad.add j) = some u := fun j u h => (hal.cell (block_lt_of_cell (hce' j u h))).trans (hce' j u h)
      have HM := hide hm; have HAl := hide hal; have HCe := hide hce2; have H1 := hide h1; have HX := hide hx
      clear hm hal hce2 hce' h1 hx
      go_enter Tryd.func37, Tryd.ntmps37
      go_wp2_with (at_builtin; refine wpList_append_lies (w.alloc (.cells #[] 32)) rfl (.tmp 5) (.tmp 6) 23 rfl w.heap.size 32 ii (.agg #[.slice none 0 0, .slice none 0 0, .int .i64 0]) 3 56 Tryd.underlying23 hii hi0 hi1 hi2 rfl (by decide) (.slice (some ⟨w.heap.size, 0, none⟩) 0 0) 0 [] rfl (unhide HM) ad n cp xs rfl (unhide HX) (unhide HCe) (unhide H1) (by omega) (by unfold maxLen; omega) (by omega) (by simp) (w.heap.size + 1) (by simp) ?_)
      intro g cap w5 hown hgrow hat hlt
      have hB := (unhide HAl).grown hgrow (by simp) (fun k hk => by simp [Value.ownBlock] at hk; omega)
      have HB := hide hB; have HOwn := hide hown
      clear hown hgrow hB hat hlt
      go_wp2
      go_ret
      exact ⟨_, rfl, .inr ⟨by omega, _, _, rfl, unhide HOwn⟩, unhide HB⟩
end Vc
end Go.Proofs.YtpecnljcgiicaaaDoor
