/- G6: what follows, part by part: each part tells what it holds. -/
import Derived.Test.YtcljcnaglkbjcaaGreatDoorMemB
import Derived.Test.YtcljcnaglkbjcaaGreatDoorMemM

/- Sum: a sum of all bytes. -/
namespace Go.Proofs.YtcljcnaglkbjcaaGreatDoor
open Go.RowKit
set_option linter.unusedVariables false

/-- one byte more -/
def sumB (h : Int) (i : Nat) (z : Int) : Int :=
  if z = 0 then h else IntKind.u64.wrap (bits .xor .u64 (IntKind.u64.wrap (bits .xor .u64 h i * 1099511628211)) z * 1099511628211)
def sumZ (zs : List Int) : Nat → Int
  | 0 => 14695981039346656037
  | k + 1 => sumB (sumZ zs k) k (zs[k]?.getD 0)
theorem sumZ_bd (zs : List Int) : ∀ k, 0 ≤ sumZ zs k ∧ sumZ zs k < 18446744073709551616
  | 0 => by simp [sumZ]
  | k + 1 => by
    have := sumZ_bd zs k
    rw [sumZ, sumB]
    split
    · exact this
    · rw [IntKind.wrap_u64]; omega

set_option maxHeartbeats 1000000 in
theorem sum_any {w : World} {b g n cap : Nat} {most : Int} {zs : List Int} (hm : MemAt w b g n cap most zs) :
    Calls Tryz.prog 25 #[.pointer (some ⟨b, 0, none⟩)] w fun e w' => e = .returned (.int .u64 (sumZ zs n)) ∧ w = w' := by
  have h0 := hm.c0
  have hs := hm.small
  have hr := hm.room
  have HM := hide hm
  clear hm
  go_enter Tryz.func25, Tryz.ntmps25
  go_wp2_with fail
  go_loop [3, 13] (fun h i => ∃ k : Nat, k ≤ n ∧ i = .int .i64 k ∧ h = .int .u64 (sumZ zs k)) (fun _ i => n - (intOf i).toNat)
  case atStart => exact ⟨0, Nat.zero_le _, rfl, rfl⟩
  case round =>
    obtain ⟨k, hk, rfl, rfl⟩ := hrel
    by_cases hlt : k < n
    · have hcell := (unhide HM).cell k hlt
      have hb := (unhide HM).byt_at k
      have hst : sumZ zs (k + 1) = sumB (sumZ zs k) k (zs[k]?.getD 0) := rfl
      have hbd := sumZ_bd zs k
      have HS := hide hst
      clear hst
      generalize zs[k]?.getD 0 = z at *
      generalize sumZ zs k = H at *
      by_cases hz : z = 0
      · subst hz
        go_wp2
        go_round
        case rel => exact ⟨k + 1, by omega, by go_num, by rw [unhide HS]; simp [sumB]⟩
        case measure => simp [intOf]; omega
      · have hz2 : (z != 0) = true := by simpa using hz
        go_wp2
        go_round
        case rel => exact ⟨k + 1, by omega, by go_num, by rw [unhide HS, sumB, if_neg hz]⟩
        case measure => simp [intOf]; omega
    · obtain rfl : k = n := by omega
      go_wp2
      go_ret
      exact ⟨rfl, rfl⟩
end Go.Proofs.YtcljcnaglkbjcaaGreatDoor

/- Plain mathematics of the document's memory: the list of the bytes that are not 0, by their places. -/
namespace Go.Proofs.YtcljcnaglkbjcaaGreatDoor
set_option linter.unusedVariables false
namespace Mm

/-- the bytes that are not 0, with their places, the first of which is i -/
def nz : List Int → Nat → List (Int × Int)
  | [], _ => []
  | z :: zs, i => if z = 0 then nz zs (i + 1) else ((i : Int), z) :: nz zs (i + 1)
def getL : List (Int × Int) → Int → Int
  | [], _ => 0
  | (p, c) :: r, a => if p = a then c else getL r a
/-- what writing leaves of a list; d: it is written already -/
def setL (a b : Int) : Bool → List (Int × Int) → List (Int × Int)
  | d, [] => if d then [] else [(a, b)]
  | d, (p, c) :: r =>
    if d = false ∧ a ≤ p then (a, b) :: (if p = a then setL a b true r else (p, c) :: setL a b true r)
    else if p = a then setL a b d r else (p, c) :: setL a b d r
def stepL (h : Int) (x : Int × Int) : Int := IntKind.u64.wrap (bits .xor .u64 (IntKind.u64.wrap (bits .xor .u64 h x.1 * 1099511628211)) x.2 * 1099511628211)
def sumL (L : List (Int × Int)) : Int := L.foldl stepL 14695981039346656037

theorem nz_key : ∀ (zs : List Int) (i : Nat), ∀ p ∈ nz zs i, (i : Int) ≤ p.1
  | [], _, _, h => by simp [nz] at h
  | z :: zs, i, p, h => by
    rw [nz] at h
    split at h
    · have := nz_key zs (i + 1) p h; omega
    · rcases List.mem_cons.1 h with rfl | h
      · exact Int.le_refl _
      · have := nz_key zs (i + 1) p h; omega
theorem getL_gt : ∀ (L : List (Int × Int)) (a : Int), (∀ p ∈ L, a < p.1) → getL L a = 0
  | [], _, _ => rfl
  | (p, c) :: r, a, h => by
    rw [getL, if_neg (by have := h (p, c) (by simp); simp at this; omega)]
    exact getL_gt r a fun q hq => h q (by simp [hq])
theorem nz_get : ∀ (zs : List Int) (i a : Nat), i ≤ a → getL (nz zs i) a = zs[a - i]?.getD 0
  | [], _, _, _ => by simp [nz, getL]
  | z :: zs, i, a, h => by
    rw [nz]
    by_cases ha : a = i
    · subst ha
      have hg := getL_gt (nz zs (a + 1)) a fun p hp => by have := nz_key zs (a + 1) p hp; omega
      split
      · rename_i hz; rw [hg]; simp [hz]
      · simp [getL]
    · have ih := nz_get zs (i + 1) a (by omega)
      rw [show a - i = (a - (i + 1)) + 1 from by omega, List.getElem?_cons_succ]
      split
      · exact ih
      · rw [getL, if_neg (by omega)]; exact ih
theorem setL_gt : ∀ (L : List (Int × Int)) (a b : Int) (d : Bool), (∀ p ∈ L, a < p.1) → setL a b d L = if d then L else (a, b) :: L
  | [], a, b, d, _ => by rw [setL]
  | (p, c) :: r, a, b, d, h => by
    have hp : a < p := h (p, c) (by simp)
    have ih := setL_gt r a b true fun q hq => h q (by simp [hq])
    simp only [if_true] at ih
    rw [setL]
    cases d
    · rw [if_pos ⟨rfl, by omega⟩, if_neg (by omega), ih]; rfl
    · rw [if_neg (by simp), if_neg (by omega), ih]; rfl
theorem nz_set : ∀ (zs : List Int) (i a : Nat) (b : Int), i ≤ a → a < i + zs.length → setL a b (decide (b = 0)) (nz zs i) = nz (zs.set (a - i) b) i
  | [], _, _, _, h, h2 => by simp at h2; omega
  | z :: zs, i, a, b, h, h2 => by
    have hgt : ∀ (d : Bool), setL (i : Int) b d (nz zs (i + 1)) = if d then nz zs (i + 1) else ((i : Int), b) :: nz zs (i + 1) := fun d =>
      setL_gt _ _ _ _ fun p hp => by have := nz_key zs (i + 1) p hp; omega
    by_cases ha : a = i
    · subst ha
      rw [Nat.sub_self, List.set_cons_zero, nz, nz]
      by_cases hz : z = 0
      · rw [if_pos hz, hgt]
        by_cases hb : b = 0
        · simp [hb]
        · simp [hb]
      · rw [if_neg hz, setL]
        by_cases hb : b = 0
        · rw [if_pos hb, if_neg (by simp [hb]), if_pos rfl, hgt]; simp [hb]
        · rw [if_neg hb, if_pos (by simp [hb]), if_pos rfl, hgt]; simp
    · have ih := nz_set zs (i + 1) a b (by omega) (by simp at h2; omega)
      rw [show a - i = (a - (i + 1)) + 1 from by omega, List.set_cons_succ, nz, nz]
      by_cases hz : z = 0
      · rw [if_pos hz, if_pos hz, ih]
      · rw [if_neg hz, if_neg hz, setL, if_neg (by omega), if_neg (by omega), ih]
theorem nz_app : ∀ (zs ys : List Int) (i : Nat), nz (zs ++ ys) i = nz zs i ++ nz ys (i + zs.length)
  | [], ys, i => by simp [nz]
  | z :: zs, ys, i => by
    have ih := nz_app zs ys (i + 1)
    rw [List.cons_append, nz, nz, ih, show i + 1 + zs.length = i + (z :: zs).length from by simp; omega]
    split <;> simp
theorem nz_zero : ∀ (n i : Nat), nz (List.replicate n 0) i = []
  | 0, _ => rfl
  | n + 1, i => by rw [List.replicate_succ, nz, if_pos rfl, nz_zero n]
theorem nz_len : ∀ (zs : List Int) (i : Nat), (nz zs i).length ≤ zs.length
  | [], _ => by simp [nz]
  | z :: zs, i => by
    have := nz_len zs (i + 1)
    rw [nz]; split <;> simp <;> omega
theorem nz_mem : ∀ (zs : List Int) (i : Nat), ∀ p ∈ nz zs i, ∃ j : Nat, j < zs.length ∧ p.1 = ((i + j : Nat) : Int) ∧ p.2 = zs[j]?.getD 0
  | [], _, _, h => by simp [nz] at h
  | z :: zs, i, p, h => by
    have ih : p ∈ nz zs (i + 1) → ∃ j : Nat, j < (z :: zs).length ∧ p.1 = ((i + j : Nat) : Int) ∧ p.2 = (z :: zs)[j]?.getD 0 := fun hp => by
      obtain ⟨j, h1, h2, h3⟩ := nz_mem zs (i + 1) p hp
      exact ⟨j + 1, by simp; omega, by rw [h2]; congr 1; omega, by simpa using h3⟩
    rw [nz] at h
    split at h
    · exact ih h
    · rcases List.mem_cons.1 h with rfl | h
      · exact ⟨0, by simp, by simp, by simp⟩
      · exact ih h
theorem take_snoc' (zs : List Int) (k : Nat) (h : k < zs.length) : zs.take (k + 1) = zs.take k ++ [zs[k]?.getD 0] := by
  rw [List.take_succ_eq_append_getElem h]; simp [h]
theorem sumL_take (zs : List Int) : ∀ k, k ≤ zs.length → sumL (nz (zs.take k) 0) = sumZ zs k
  | 0, _ => rfl
  | k + 1, h => by
    have ih := sumL_take zs k (by omega)
    rw [take_snoc' zs k (by omega), nz_app, sumL, List.foldl_append]
    rw [sumL] at ih
    rw [ih, sumZ, sumB]
    have hl : (zs.take k).length = k := by simp; omega
    rw [hl, nz, nz]
    by_cases hz : zs[k]?.getD 0 = 0
    · rw [if_pos hz, if_pos hz]; rfl
    · rw [if_neg hz, if_neg hz]; simp [stepL]
theorem sumL_nz (zs : List Int) : sumL (nz zs 0) = sumZ zs zs.length := by
  have := sumL_take zs zs.length (Nat.le_refl _)
  rwa [List.take_length] at this
end Mm
end Go.Proofs.YtcljcnaglkbjcaaGreatDoor

/- The document's list in the heap; Get. -/
namespace Go.Proofs.YtcljcnaglkbjcaaGreatDoor
open Go.RowKit Mm
set_option linter.unusedVariables false

/-- the cells of a list -/
def cl (L : List (Int × Int)) : List Value := L.flatMap fun x => [.int .u64 x.1, .int .u8 x.2]
theorem cl_nil : cl [] = [] := rfl
theorem cl_cons (x : Int × Int) (L : List (Int × Int)) : cl (x :: L) = .int .u64 x.1 :: .int .u8 x.2 :: cl L := rfl
theorem cl_app (L M : List (Int × Int)) : cl (L ++ M) = cl L ++ cl M := by simp [cl]
theorem cl_len : ∀ L : List (Int × Int), (cl L).length = L.length * 2
  | [] => rfl
  | x :: L => by rw [cl_cons]; simp [cl_len L]; omega
theorem cl_at : ∀ (L : List (Int × Int)) (i : Nat), i < L.length → (cl L)[i * 2]? = some (.int .u64 (L[i]?.getD (0, 0)).1) ∧ (cl L)[i * 2 + 1]? = some (.int .u8 (L[i]?.getD (0, 0)).2)
  | [], _, h => by simp at h
  | x :: L, 0, _ => by rw [cl_cons]; simp
  | x :: L, i + 1, h => by
    have := cl_at L i (by simpa using h)
    rw [cl_cons, show (i + 1) * 2 = i * 2 + 1 + 1 from by omega]
    simpa using this

/-- A list of the document's cells: a row from block B on. -/
structure LRow (w : World) (B : Nat) (v : Value) (L : List (Int × Int)) : Prop where
  own : w.ownsRow B 173 2 v L.length (cl L)
  small : L.length ≤ 65536
  bd : ∀ x ∈ L, (0 ≤ x.1 ∧ x.1 < 65536) ∧ 0 ≤ x.2 ∧ x.2 ≤ 255
namespace LRow
variable {w : World} {B : Nat} {v : Value} {L : List (Int × Int)}
theorem shape (h : LRow w B v L) : ∃ a cap, v = .slice a L.length cap ∧ L.length ≤ cap ∧ cap ≤ maxLen ∧
    (0 < L.length → ∃ g, a = some ⟨g, 0, none⟩ ∧ g < w.heap.size ∧ B ≤ g ∧ ∀ i, i < L.length → w.cell? ⟨g, i * 2, none⟩ = some (.int .u64 (L[i]?.getD (0, 0)).1) ∧ w.cell? ⟨g, i * 2 + 1, none⟩ = some (.int .u8 (L[i]?.getD (0, 0)).2)) := by
  rcases h.own.2 with ⟨rfl, h0⟩ | ⟨g, cap, cur, rfl, hg, hb, h1, h2, h3, h4⟩
  · rw [h0]; exact ⟨none, 0, rfl, by omega, by unfold maxLen; omega, by omega⟩
  · refine ⟨_, cap, rfl, h1, h2, fun _ => ⟨g, rfl, (Array.getElem?_eq_some_iff.1 hb).1, hg, fun i hi => ?_⟩⟩
    have hc := h.own.cells (g := g) rfl
    have ha := cl_at L i hi
    have e : ∀ j, (⟨g, 0, none⟩ : Addr).add j = ⟨g, j, none⟩ := fun j => by unfold Addr.add; split <;> simp_all
    have c1 := hc _ _ ha.1; have c2 := hc _ _ ha.2
    rw [e] at c1 c2
    exact ⟨c1, c2⟩
theorem keep (h : LRow w B v L) {w' : World} {row : Option Nat} (hg : w.grownBy w' row) (hne : v.ownBlock = none ∨ v.ownBlock ≠ row) : LRow w' B v L := ⟨h.own.kept hg hne, h.small, h.bd⟩
theorem below (h : LRow w B v L) {w' : World} (hb : Below w.heap.size w w') : LRow w' B v L :=
  ⟨h.own.kept (row := none) ⟨hb.os, hb.tape, hb.output, hb.size, fun k hk _ => hb.block k hk⟩ (by cases hv : v.ownBlock <;> simp), h.small, h.bd⟩
/-- a memory's own blocks are others: what is written into them leaves the list -/
theorem oth (h : LRow w B v L) {w' : World} {b g n cap : Nat} {most : Int} {zs : List Int} (hm : MemAt w b g n cap most zs) (ho : Oth b g w w') : LRow w' B v L := by
  refine ⟨⟨h.own.1, ?_⟩, h.small, h.bd⟩
  rcases h.own.2 with hn | ⟨g', cap', cur, rfl, hg, hb, h1, h2, h3, h4⟩
  · exact .inl hn
  · refine .inr ⟨g', cap', cur, rfl, hg, ?_, h1, h2, h3, h4⟩
    rw [ho.block g' (Array.getElem?_eq_some_iff.1 hb).1 ?_ ?_]
    · exact hb
    · rintro rfl; have := hm.box.symm.trans hb; simp at this
    · rintro rfl; obtain ⟨c, hc, _⟩ := hm.row; have := hc.symm.trans hb; simp at this
theorem base (h : LRow w B v L) {B' : Nat} (hB : B' ≤ B) : LRow w B' v L := by
  refine ⟨⟨h.own.1, ?_⟩, h.small, h.bd⟩
  rcases h.own.2 with hn | ⟨g', cap', cur, rfl, hg, r⟩
  · exact .inl hn
  · exact .inr ⟨g', cap', cur, rfl, by omega, r⟩
end LRow

theorem bd_at {L : List (Int × Int)} (h : ∀ x ∈ L, (0 ≤ x.1 ∧ x.1 < 65536) ∧ 0 ≤ x.2 ∧ x.2 ≤ 255) (i : Nat) (hi : i < L.length) : (0 ≤ (L[i]?.getD (0, 0)).1 ∧ (L[i]?.getD (0, 0)).1 < 65536) ∧ 0 ≤ (L[i]?.getD (0, 0)).2 ∧ (L[i]?.getD (0, 0)).2 ≤ 255 := by
  have := h L[i] (List.getElem_mem hi)
  simpa [hi] using this
theorem drop_at {L : List (Int × Int)} (k : Nat) (h : k < L.length) : L.drop k = L[k]?.getD (0, 0) :: L.drop (k + 1) := by
  rw [List.drop_eq_getElem_cons h]; simp [h]

set_option maxHeartbeats 1000000 in
theorem get_any {w : World} {B : Nat} {v : Value} {L : List (Int × Int)} (h : LRow w B v L) (P k a : Int) :
    Calls Tryz.prog 87 #[.agg #[.int .i64 P, .int .i64 k, v], .int .u64 a] w fun e w' => e = .returned (.int .u8 (getL L a)) ∧ Below w.heap.size w w' := by
  obtain ⟨ad, cap, rfl, hc1, hc2, hcell⟩ := h.shape
  have hs := h.small
  have hbd := fun i hi => bd_at h.bd i hi
  unfold maxLen at hc2
  have hw1 : Below w.heap.size w (w.alloc (.cells #[.int .i64 P, .int .i64 k, .slice ad L.length cap] 51)) := (Below.refl _ _).alloc (Nat.le_refl _) _
  have HW := hide hw1; have HC := hide hcell; have HB := hide hbd
  clear hw1 hcell hbd h
  go_enter Tryz.func87, Tryz.ntmps87
  go_wp2_with fail
  go_loop [5] (fun i => ∃ j : Nat, j ≤ L.length ∧ i = .int .i64 j ∧ getL (L.drop j) a = getL L a) (fun i => (L.length - intOf i).toNat)
  case atStart => exact ⟨0, by omega, rfl, rfl⟩
  case round =>
    obtain ⟨j, hj, rfl, hget⟩ := hrel
    by_cases hlt : j < L.length
    · obtain ⟨g, rfl, hg, _, hcs⟩ := unhide HC (by omega)
      obtain ⟨c1, c2⟩ := hcs j hlt
      have hb := unhide HB j hlt
      rw [drop_at j hlt] at hget
      generalize hx : L[j]?.getD (0, 0) = x at *
      obtain ⟨p, c⟩ := x
      rw [getL] at hget
      have HG := hide hget
      have d1 : (w.alloc (.cells #[.int .i64 P, .int .i64 k, .slice (some ⟨g, 0, none⟩) L.length cap] 51)).cell? ⟨g, j * 2, none⟩ = some (.int .u64 p) := ((unhide HW).cell (p := ⟨g, j * 2, none⟩) hg).trans c1
      have d2 : (w.alloc (.cells #[.int .i64 P, .int .i64 k, .slice (some ⟨g, 0, none⟩) L.length cap] 51)).cell? ⟨g, j * 2 + 1, none⟩ = some (.int .u8 c) := ((unhide HW).cell (p := ⟨g, j * 2 + 1, none⟩) hg).trans c2
      have hj2 : (j : Int) < L.length := by omega
      clear hget c1 c2 hcs hx hlt hj
      by_cases hp : p = a
      · have t : (p == a) = true := by simpa using hp
        have e := unhide HG
        rw [if_pos hp] at e
        have HE := hide e
        clear hp e HG
        go_wp2
        go_ret
        exact ⟨ret_int (unhide HE), unhide HW⟩
      · have t : (p == a) = false := by simpa using hp
        have e := unhide HG
        rw [if_neg hp] at e
        have HE := hide e
        clear hp e HG
        go_wp2
        go_round
        case rel => exact ⟨j + 1, by omega, by go_num, unhide HE⟩
        case measure => simp [intOf]; omega
    · obtain rfl : j = L.length := by omega
      rw [List.drop_length] at hget
      have HG := hide hget; clear hget
      go_wp2
      go_ret
      exact ⟨ret_int (unhide HG), unhide HW⟩
end Go.Proofs.YtcljcnaglkbjcaaGreatDoor

/- The document's Has and Grow. -/
namespace Go.Proofs.YtcljcnaglkbjcaaGreatDoor
open Go.RowKit Mm
set_option linter.unusedVariables false

set_option maxRecDepth 100000 in
set_option maxHeartbeats 2000000 in
theorem has_any (P cap m : Nat) (ad : Option Addr) (k a o s : Int) (w : World) (hP : P ≤ 16) (ha : U64 a) (ho : U64 o) :
    Calls Tryz.prog 72 #[.agg #[.int .i64 P, .int .i64 k, .slice ad m cap], .int .u64 a, .int .u64 o, .int .i64 s] w fun e w' => e = .returned (.bool (fits (P * 4096) a o s)) ∧ Below w.heap.size w w' := by
  obtain ⟨a0, a1⟩ := ha
  obtain ⟨o0, o1⟩ := ho
  have hw1 : Below w.heap.size w (w.alloc (.cells #[.int .i64 P, .int .i64 k, .slice ad m cap] 51)) := (Below.refl _ _).alloc (Nat.le_refl _) _
  have HW := hide hw1; clear hw1
  by_cases hz : s = 1 ∨ s = 2 ∨ s = 4 ∨ s = 8
  · by_cases c1 : a ≤ (P : Int) * 4096
    · by_cases c2 : o ≤ (P : Int) * 4096
      · by_cases c3 : a + o + s ≤ (P : Int) * 4096
        · have hf : fits (P * 4096) a o s = true := fits_iff.2 ⟨hz, by omega⟩
          rw [hf]; clear hf
          rcases hz with rfl | rfl | rfl | rfl
          all_goals
            go_enter Tryz.func72, Tryz.ntmps72
            go_wp2
            go_ret
            exact ⟨rfl, unhide HW⟩
        · have hf : fits (P * 4096) a o s = false := fits_no.2 (by omega)
          rw [hf]; clear hf
          rcases hz with rfl | rfl | rfl | rfl
          all_goals
            have c4 := decide_eq_false c3
            clear c3
            go_enter Tryz.func72, Tryz.ntmps72
            go_wp2
            go_ret
            exact ⟨rfl, unhide HW⟩
      · have hf : fits (P * 4096) a o s = false := fits_no.2 (by omega)
        rw [hf]; clear hf
        rcases hz with rfl | rfl | rfl | rfl
        all_goals
          go_enter Tryz.func72, Tryz.ntmps72
          go_wp2
          go_ret
          exact ⟨rfl, unhide HW⟩
    · have hf : fits (P * 4096) a o s = false := fits_no.2 (by omega)
      rw [hf]; clear hf
      rcases hz with rfl | rfl | rfl | rfl
      all_goals
        go_enter Tryz.func72, Tryz.ntmps72
        go_wp2
        go_ret
        exact ⟨rfl, unhide HW⟩
  · have hf : fits (P * 4096) a o s = false := fits_no.2 (by omega)
    rw [hf]; clear hf
    have z1 : (s == 1) = false := by simp; omega
    have z2 : (s == 2) = false := by simp; omega
    have z4 : (s == 4) = false := by simp; omega
    have z8 : (s == 8) = false := by simp; omega
    clear hz
    go_enter Tryz.func72, Tryz.ntmps72
    go_wp2
    go_ret
    exact ⟨rfl, unhide HW⟩
end Go.Proofs.YtcljcnaglkbjcaaGreatDoor

/- The document's Sum. -/
namespace Go.Proofs.YtcljcnaglkbjcaaGreatDoor
open Go.RowKit Mm
set_option linter.unusedVariables false

theorem sumL_snoc (L : List (Int × Int)) (j : Nat) (h : j < L.length) : (L.take (j + 1)).foldl stepL 14695981039346656037 = stepL ((L.take j).foldl stepL 14695981039346656037) (L[j]?.getD (0, 0)) := by
  rw [List.take_succ_eq_append_getElem h, List.foldl_append]; simp [h]
theorem sumL_bd (L : List (Int × Int)) (j : Nat) : 0 ≤ (L.take j).foldl stepL 14695981039346656037 ∧ (L.take j).foldl stepL 14695981039346656037 < 18446744073709551616 := by
  induction j with
  | zero => simp
  | succ j ih =>
    by_cases h : j < L.length
    · rw [sumL_snoc L j h, stepL, IntKind.wrap_u64]; omega
    · rw [List.take_of_length_le (by omega)]; rw [List.take_of_length_le (by omega)] at ih; exact ih

set_option maxHeartbeats 1000000 in
theorem refSum_any {w : World} {B : Nat} {v : Value} {L : List (Int × Int)} (h : LRow w B v L) (P k : Int) :
    Calls Tryz.prog 26 #[.agg #[.int .i64 P, .int .i64 k, v]] w fun e w' => e = .returned (.int .u64 (sumL L)) ∧ Below w.heap.size w w' := by
  obtain ⟨ad, cap, rfl, hc1, hc2, hcell⟩ := h.shape
  have hs := h.small
  have hbd := fun i hi => bd_at h.bd i hi
  unfold maxLen at hc2
  have hw1 : Below w.heap.size w (w.alloc (.cells #[.int .i64 P, .int .i64 k, .slice ad L.length cap] 51)) := (Below.refl _ _).alloc (Nat.le_refl _) _
  have HW := hide hw1; have HC := hide hcell; have HB := hide hbd
  clear hw1 hcell hbd h
  go_enter Tryz.func26, Tryz.ntmps26
  go_wp2_with fail
  go_loop [3, 4] (fun h i => ∃ j : Nat, j ≤ L.length ∧ i = .int .i64 j ∧ h = .int .u64 ((L.take j).foldl stepL 14695981039346656037)) (fun _ i => (L.length - intOf i).toNat)
  case atStart => exact ⟨0, by omega, rfl, rfl⟩
  case round =>
    obtain ⟨j, hj, rfl, rfl⟩ := hrel
    by_cases hlt : j < L.length
    · obtain ⟨g, rfl, hg, _, hcs⟩ := unhide HC (by omega)
      obtain ⟨c1, c2⟩ := hcs j hlt
      have hb := unhide HB j hlt
      have hst := sumL_snoc L j hlt
      have hHb := sumL_bd L j
      generalize (L.take j).foldl stepL 14695981039346656037 = H at *
      generalize L[j]?.getD (0, 0) = x at *
      obtain ⟨p, c⟩ := x
      rw [stepL] at hst
      have HS := hide hst
      have d1 : (w.alloc (.cells #[.int .i64 P, .int .i64 k, .slice (some ⟨g, 0, none⟩) L.length cap] 51)).cell? ⟨g, j * 2, none⟩ = some (.int .u64 p) := ((unhide HW).cell (p := ⟨g, j * 2, none⟩) hg).trans c1
      have d2 : (w.alloc (.cells #[.int .i64 P, .int .i64 k, .slice (some ⟨g, 0, none⟩) L.length cap] 51)).cell? ⟨g, j * 2 + 1, none⟩ = some (.int .u8 c) := ((unhide HW).cell (p := ⟨g, j * 2 + 1, none⟩) hg).trans c2
      have hj2 : (j : Int) < L.length := by omega
      clear hst c1 c2 hcs hlt hj
      go_wp2
      go_round
      case rel => exact ⟨j + 1, by omega, by go_num, by rw [unhide HS]⟩
      case measure => simp [intOf]; omega
    · obtain rfl : j = L.length := by omega
      rw [List.take_length]
      go_wp2
      go_ret
      exact ⟨rfl, unhide HW⟩
end Go.Proofs.YtcljcnaglkbjcaaGreatDoor

/- The document's Load. -/
namespace Go.Proofs.YtcljcnaglkbjcaaGreatDoor
open Go.RowKit Mm
set_option linter.unusedVariables false

theorem bytes_at {zs : List Int} (h : ∀ z ∈ zs, 0 ≤ z ∧ z ≤ 255) (i : Nat) : 0 ≤ zs[i]?.getD 0 ∧ zs[i]?.getD 0 ≤ 255 := by
  by_cases hi : i < zs.length
  · have := h zs[i] (List.getElem_mem hi)
    simpa [hi] using this
  · simp [hi]

set_option maxRecDepth 100000 in
set_option maxHeartbeats 2000000 in
theorem refLoad_yes {w : World} {B P : Nat} {v : Value} {zs : List Int} (h : LRow w B v (nz zs 0)) (hby : ∀ z ∈ zs, 0 ≤ z ∧ z ≤ 255) (k a o s : Int) (hP : P ≤ 16) (ha : U64 a) (ho : U64 o) (hf : fits (P * 4096) a o s = true) :
    Calls Tryz.prog 55 #[.agg #[.int .i64 P, .int .i64 k, v], .int .u64 a, .int .u64 o, .int .i64 s] w fun e w' =>
      e = .returned (.tuple #[.int .u64 (ldZ zs (a + o).toNat s.toNat), .bool true]) ∧ Below w.heap.size w w' := by
  obtain ⟨ad, cap, rfl, hc1, hc2, _⟩ := h.shape
  obtain ⟨h1, h2⟩ := fits_iff.1 hf
  have hhas := fun wx => has_any P cap (nz zs 0).length ad k a o s wx hP ha ho
  rw [hf] at hhas
  obtain ⟨a0, a1⟩ := ha
  obtain ⟨o0, o1⟩ := ho
  obtain ⟨f, hfe⟩ := Int.eq_ofNat_of_zero_le (show 0 ≤ a + o by omega)
  obtain ⟨s', rfl⟩ := Int.eq_ofNat_of_zero_le (show 0 ≤ s by omega)
  rw [hfe]
  simp only [Int.toNat_natCast]
  have hs8 : s' ≤ 8 := by omega
  have hs1 : 1 ≤ s' := by omega
  have hfn : f + s' ≤ 65536 := by omega
  have hw1 : Below w.heap.size w (w.alloc (.cells #[.int .i64 P, .int .i64 k, .slice ad (nz zs 0).length cap] 51)) := (Below.refl _ _).alloc (Nat.le_refl _) _
  have hbox : (w.alloc (.cells #[.int .i64 P, .int .i64 k, .slice ad (nz zs 0).length cap] 51)).heap[w.heap.size]? = some (.cells #[.int .i64 P, .int .i64 k, .slice ad (nz zs 0).length cap] 51 (0, 0)) := heap_alloc_new _ _
  have hnz := fun i : Nat => nz_get zs 0 i (Nat.zero_le _)
  simp only [Nat.sub_zero] at hnz
  generalize nz zs 0 = L at *
  have H := hide h; have HW := hide hw1; have HBX := hide hbox; have HH := hide hhas; have HE := hide hfe; have HNZ := hide hnz
  clear h hw1 hf hhas h1 h2 hbox hfe hc2 hnz
  go_enter Tryz.func55, Tryz.ntmps55
  go_wp2_with fail
  refine (unhide HH _).mono ?_
  rintro e w1 ⟨rfl, hb1⟩
  have hb1' : Below (w.heap.size + 1) (w.alloc (.cells #[.int .i64 P, .int .i64 k, .slice ad L.length cap] 51)) w1 := by simpa using hb1
  have hbx1 := (hb1'.block w.heap.size (by omega)).trans (unhide HBX)
  have hB1 := (unhide HW).trans (hb1'.mono (by omega))
  have HB := hide hB1; have HX := hide hbx1
  clear hb1 hb1' hB1 hbx1 HBX HW HH
  go_wp2_with fail
  go_loopw [10, 11] (fun x i wr => ∃ j : Nat, j ≤ s' ∧ i = .int .i64 ((j : Int) - 1) ∧ x = .int .u64 (ldZ zs (f + j) (s' - j)) ∧ Below w.heap.size w wr ∧ wr.heap[w.heap.size]? = some (.cells #[.int .i64 P, .int .i64 k, .slice ad L.length cap] 51 (0, 0))) (fun _ i _ => (intOf i + 1).toNat)
  case atStart => exact ⟨s', by omega, rfl, by rw [Nat.sub_self]; rfl, unhide HB, unhide HX⟩
  case round =>
    obtain ⟨j, hj, rfl, rfl, hbr, hxr⟩ := hrel
    clear HB HX
    cases j with
    | zero =>
      have HB := hide hbr
      clear hbr hxr
      simp only [Nat.add_zero, Nat.sub_zero]
      go_wp2
      go_ret2
      exact ⟨rfl, unhide HB⟩
    | succ j =>
      have hLr := (unhide H).below (w' := wr) hbr
      have hget := get_any hLr P k ((f + j : Nat) : Int)
      rw [unhide HNZ (f + j)] at hget
      have hld : ldZ zs (f + j) (s' - j) = zs[f + j]?.getD 0 + 256 * ldZ zs (f + (j + 1)) (s' - (j + 1)) := by
        rw [show s' - j = (s' - (j + 1)) + 1 from by omega, ldZ]; rfl
      have hbd := ldZ_bd (s' - (j + 1)) zs (f + (j + 1)) (bytes_at hby)
      have hbz := bytes_at hby (f + j)
      have hp : (256 : Int) ^ (s' - (j + 1)) ≤ 72057594037927936 := by
        rcases (show s' - (j + 1) = 0 ∨ s' - (j + 1) = 1 ∨ s' - (j + 1) = 2 ∨ s' - (j + 1) = 3 ∨ s' - (j + 1) = 4 ∨ s' - (j + 1) = 5 ∨ s' - (j + 1) = 6 ∨ s' - (j + 1) = 7 from by omega) with h | h | h | h | h | h | h | h <;> rw [h] <;> decide
      have hv1 : ldZ zs (f + (j + 1)) (s' - (j + 1)) < 72057594037927936 := by omega
      have hv0 := hbd.1
      have hc0 : wr.cell? ⟨w.heap.size, 0, none⟩ = some (.int .i64 P) := by rw [cell_of_row wr _ 0 _ _ _ hxr]; rfl
      have hc1' : wr.cell? ⟨w.heap.size, 1, none⟩ = some (.int .i64 k) := by rw [cell_of_row wr _ 1 _ _ _ hxr]; rfl
      have hc2' : wr.cell? ⟨w.heap.size, 2, none⟩ = some (.slice ad L.length cap) := by rw [cell_of_row wr _ 2 _ _ _ hxr]; rfl
      have hfe := unhide HE
      have eadd : a + o + (j : Int) = ((f + j : Nat) : Int) := by omega
      have e1 : ((j + 1 : Nat) : Int) - 1 = (j : Int) := by omega
      rw [e1]
      generalize ldZ zs (f + (j + 1)) (s' - (j + 1)) = V at *
      generalize zs[f + j]?.getD 0 = z at *
      have hw' : w.heap.size < wr.heap.size := (Array.getElem?_eq_some_iff.1 hxr).1
      have hao : a + o ≤ 65536 := by omega
      have hj8 : (j : Int) ≤ 7 := by omega
      have HB := hide hbr; have HX := hide hxr; have HG := hide hget; have HLD := hide hld; have HA := hide eadd
      clear hbr hxr hget hld hbd hp hLr e1 hfe eadd
      go_wp2_with fail
      rw [unhide HA]
      refine (unhide HG).mono ?_
      rintro e w2 ⟨rfl, hb2⟩
      have hB2 := Below.on (unhide HB) hb2
      have hx2 := (hb2.block w.heap.size hw').trans (unhide HX)
      have HB2 := hide hB2; have HX2 := hide hx2
      clear HB HX HG hb2 hB2 hx2
      go_wp2
      go_roundw
      case rel => exact ⟨j, by omega, by go_num, by rw [unhide HLD]; go_num, unhide HB2, unhide HX2⟩
      case measure => simp [intOf]; try omega

set_option maxRecDepth 100000 in
set_option maxHeartbeats 1000000 in
theorem refLoad_no (P cap m : Nat) (ad : Option Addr) (k a o s : Int) (w : World) (hP : P ≤ 16) (ha : U64 a) (ho : U64 o) (hf : fits (P * 4096) a o s = false) :
    Calls Tryz.prog 55 #[.agg #[.int .i64 P, .int .i64 k, .slice ad m cap], .int .u64 a, .int .u64 o, .int .i64 s] w fun e w' => e = .returned (.tuple #[.int .u64 0, .bool false]) ∧ Below w.heap.size w w' := by
  have hhas := fun wx => has_any P cap m ad k a o s wx hP ha ho
  rw [hf] at hhas
  have HH := hide hhas
  clear hhas hf ha ho
  go_enter Tryz.func55, Tryz.ntmps55
  go_wp2_with fail
  refine (unhide HH _).mono ?_
  rintro e w1 ⟨rfl, hb1⟩
  have HB := hide (Below.on ((Below.refl _ _).alloc (Nat.le_refl _) _) hb1)
  clear hb1
  go_wp2
  go_ret2
  exact ⟨rfl, unhide HB⟩
end Go.Proofs.YtcljcnaglkbjcaaGreatDoor

/- The document's set: a byte written. -/
namespace Go.Proofs.YtcljcnaglkbjcaaGreatDoor
open Go.RowKit Mm
set_option linter.unusedVariables false

theorem Tryz.info173 : (Tryz.prog.info? 173).map (fun i => (i.zero, i.size, i.bytes)) = some (some (.agg #[.int .u64 0, .int .u8 0]), 2, 16) := by kernel_rfl
theorem two_new (w : World) (x y : Value) (t : TypeId) : ∀ j u, [x, y][j]? = some u → (w.alloc (.cells #[x, y] t)).cell? ((⟨w.heap.size, 0, none⟩ : Addr).add j) = some u := by
  intro j u hj
  match j, hj with
  | 0, hj => simp at hj; subst hj; simp [Addr.add]
  | 1, hj => simp at hj; subst hj; simp [Addr.add]

/-- what one append does -/
theorem app_one (B : Nat) (w wr w2 : World) (s v' : Value) (acc : List (Int × Int)) (x : Int × Int) (hbel : Below B w wr) (hB : B ≤ wr.heap.size) (hown : wr.ownsRow B 173 2 s acc.length (cl acc))
    (hown3 : w2.ownsRow B 173 2 v' (acc.length + 1) (cl acc ++ [.int .u64 x.1, .int .u8 x.2]))
    (hgrow : (wr.alloc (.cells #[.int .u64 x.1, .int .u8 x.2] 173)).grownBy w2 s.ownBlock) :
    ∃ g cap, v' = .slice (some ⟨g, 0, none⟩) (acc ++ [x]).length cap ∧ w2.ownsRow B 173 2 (.slice (some ⟨g, 0, none⟩) (acc ++ [x]).length cap) (acc ++ [x]).length (cl (acc ++ [x])) ∧ Below B w w2 ∧ B ≤ w2.heap.size := by
  have h1 : Below B w w2 := (hbel.alloc hB _).grown hgrow (by simp; omega) (fun k hk => (hown.lt k hk).1)
  have hl : (acc ++ [x]).length = acc.length + 1 := by simp
  have hex : ∃ g cap, v' = .slice (some ⟨g, 0, none⟩) (acc.length + 1) cap := by
    rcases hown3.2 with ⟨_, h0⟩ | ⟨g, cap, _, h, _⟩
    · omega
    · exact ⟨g, cap, h⟩
  obtain ⟨g, cap, rfl⟩ := hex
  refine ⟨g, cap, by rw [hl], ?_, h1, by have := h1.size; have := (hown3.lt g rfl); omega⟩
  rw [hl, cl_app]
  exact hown3

theorem setL_1 (a b p c : Int) (r : List (Int × Int)) (h : a ≤ p) (e : p = a) : setL a b false ((p, c) :: r) = (a, b) :: setL a b true r := by rw [setL, if_pos ⟨rfl, h⟩, if_pos e]
theorem setL_2 (a b p c : Int) (r : List (Int × Int)) (h : a ≤ p) (e : ¬ p = a) : setL a b false ((p, c) :: r) = (a, b) :: (p, c) :: setL a b true r := by rw [setL, if_pos ⟨rfl, h⟩, if_neg e]
theorem setL_3 (a b p c : Int) (r : List (Int × Int)) (h : ¬ a ≤ p) : setL a b false ((p, c) :: r) = (p, c) :: setL a b false r := by rw [setL, if_neg (by omega), if_neg (by omega)]
theorem setL_4 (a b p c : Int) (r : List (Int × Int)) (e : p = a) : setL a b true ((p, c) :: r) = setL a b true r := by rw [setL, if_neg (by simp), if_pos e]
theorem setL_5 (a b p c : Int) (r : List (Int × Int)) (e : ¬ p = a) : setL a b true ((p, c) :: r) = (p, c) :: setL a b true r := by rw [setL, if_neg (by simp), if_neg e]

/-- what the last stores leave -/
theorem set_fin (S : Nat) (w W w3 : World) (v : Value) (n : Nat) (xs : List Value) (v1 v2 v3 v4 : Value) (hW : Below S w W) (hb : Below (S + 2) W w3) (hS : S ≤ W.heap.size) (ho : w3.ownsRow (S + 2) 173 2 v n xs) :
    ((((w3.setCell ⟨S, 2, none⟩ v1).setCell ⟨S + 1, 0, none⟩ v2).setCell ⟨S + 1, 1, none⟩ v3).setCell ⟨S + 1, 2, none⟩ v4).ownsRow S 173 2 v n xs ∧
      Below S w ((((w3.setCell ⟨S, 2, none⟩ v1).setCell ⟨S + 1, 0, none⟩ v2).setCell ⟨S + 1, 1, none⟩ v3).setCell ⟨S + 1, 2, none⟩ v4) := by
  have h1 := ownsRow_setCell_below (ownsRow_setCell_below (ownsRow_setCell_below (ownsRow_setCell_below ho (a := ⟨S, 2, none⟩) (by simp) v1) (a := ⟨S + 1, 0, none⟩) (by simp) v2) (a := ⟨S + 1, 1, none⟩) (by simp) v3) (a := ⟨S + 1, 2, none⟩) (by simp) v4
  refine ⟨⟨h1.1, ?_⟩, ((((hW.trans (hb.mono (by omega))).setCell (p := ⟨S, 2, none⟩) (by simp) v1).setCell (p := ⟨S + 1, 0, none⟩) (by simp) v2).setCell (p := ⟨S + 1, 1, none⟩) (by simp) v3).setCell (p := ⟨S + 1, 2, none⟩) (by simp) v4⟩
  rcases h1.2 with hn | ⟨g', cap', cur, rfl, hg, r⟩
  · exact .inl hn
  · exact .inr ⟨g', cap', cur, rfl, by omega, r⟩

/-- the relation of set's loop -/
def SetRel (w2 : World) (B : Nat) (a b : Int) (L : List (Int × Int)) (s d i : Value) (wr : World) : Prop :=
  ∃ (j : Nat) (acc : List (Int × Int)) (dn : Bool) (ad : Option Addr) (cap : Nat), j ≤ L.length ∧ i = .int .i64 j ∧ d = .bool dn ∧ s = .slice ad acc.length cap ∧
    acc.length ≤ j + dn.toNat ∧ acc ++ setL a b dn (L.drop j) = setL a b (decide (b = 0)) L ∧ wr.ownsRow B 173 2 (.slice ad acc.length cap) acc.length (cl acc) ∧ Below B w2 wr ∧ B ≤ wr.heap.size

set_option maxRecDepth 100000 in
set_option maxHeartbeats 4000000 in
theorem set_any {w : World} {B : Nat} {v : Value} {L : List (Int × Int)} (h : LRow w B v L) (P k a b : Int) (ha : 0 ≤ a ∧ a < 65536) (hb : 0 ≤ b ∧ b ≤ 255) :
    Calls Tryz.prog 73 #[.agg #[.int .i64 P, .int .i64 k, v], .int .u64 a, .int .u8 b] w fun e w' => ∃ ad cap, e = .returned (.agg #[.int .i64 P, .int .i64 k, .slice ad (setL a b (decide (b = 0)) L).length cap]) ∧
      w'.ownsRow w.heap.size 173 2 (.slice ad (setL a b (decide (b = 0)) L).length cap) (setL a b (decide (b = 0)) L).length (cl (setL a b (decide (b = 0)) L)) ∧ Below w.heap.size w w' := by
  obtain ⟨ad, cap, rfl, hc1, hc2, hcell⟩ := h.shape
  have hs := h.small
  have hbd := fun i hi => bd_at h.bd i hi
  unfold maxLen at hc2
  obtain ⟨i0, hi, hz0, hz1, hz2⟩ := info_parts Tryz.info173
  obtain ⟨a0, a1⟩ := ha
  obtain ⟨b0, b1⟩ := hb
  obtain ⟨W, hW⟩ : ∃ W, (w.alloc (.cells #[.int .i64 P, .int .i64 k, .slice ad L.length cap] 51)).alloc (.cells #[.int .i64 0, .int .i64 0, .slice none 0 0] 51) = W := ⟨_, rfl⟩
  have hW1 : Below w.heap.size w W := by rw [← hW]; exact ((Below.refl _ _).alloc (Nat.le_refl _) _).alloc (by simp) _
  have hWs : W.heap.size = w.heap.size + 2 := by rw [← hW]; simp
  have hW0 : W.heap[w.heap.size]? = some (.cells #[.int .i64 P, .int .i64 k, .slice ad L.length cap] 51 (0, 0)) := by
    rw [← hW, Below.heap_alloc _ _ _ (by simp)]; exact heap_alloc_new _ _
  have hW2 : W.heap[w.heap.size + 1]? = some (.cells #[.int .i64 0, .int .i64 0, .slice none 0 0] 51 (0, 0)) := by
    rw [← hW]; have := heap_alloc_new (w.alloc (.cells #[.int .i64 P, .int .i64 k, .slice ad L.length cap] 51)) (.cells #[.int .i64 0, .int .i64 0, .slice none 0 0] 51); simpa using this
  have hbb : (b == 0) = decide (b = 0) := by rw [Bool.eq_iff_iff]; simp
  have HC := hide hcell; have HB := hide hbd; have HW := hide hW; have H1 := hide hW1; have HS := hide hWs; have H0 := hide hW0; have H2 := hide hW2; have HBB := hide hbb
  clear hcell hbd h hW hW1 hWs hW0 hW2 hbb
  obtain ⟨R, hR⟩ : ∃ R, setL a b (decide (b = 0)) L = R := ⟨_, rfl⟩
  rw [hR]
  have HR0 := hide hR
  clear hR
  go_enter Tryz.func73, Tryz.ntmps73
  go_wp2_with fail
  rw [unhide HW, unhide HBB]
  go_loopw [7, 8, 9] (fun s d i wr => SetRel W (w.heap.size + 2) a b L s d i wr) (fun _ _ i _ => (L.length - intOf i).toNat)
  case atStart => exact ⟨0, [], decide (b = 0), none, 0, by omega, rfl, rfl, rfl, by simp, by simp, World.ownsRow_nil _ _ _ _, Below.refl _ _, by rw [unhide HS]; omega⟩
  case round =>
    obtain ⟨j, acc, dn, ads, caps, hj, rfl, rfl, rfl, hal, heq, hown, hbel, hsz⟩ := hrel
    have hR := unhide HR0
    rw [hR] at heq
    have hx0 := (hbel.block w.heap.size (by omega)).trans (unhide H0)
    have hx1 := (hbel.block (w.heap.size + 1) (by omega)).trans (unhide H2)
    have hq2 : wr.cell? ⟨w.heap.size, 2, none⟩ = some (.slice ad L.length cap) := by rw [cell_of_row wr _ 2 _ _ _ hx0]; rfl
    by_cases hlt : j < L.length
    · obtain ⟨g, rfl, hg, _, hcs⟩ := unhide HC (by omega)
      obtain ⟨c1, c2⟩ := hcs j hlt
      have hbx := unhide HB j hlt
      rw [drop_at j hlt] at heq
      generalize L[j]?.getD (0, 0) = x at *
      obtain ⟨p, c⟩ := x
      have hWg : ∀ o, wr.cell? ⟨g, o, none⟩ = w.cell? ⟨g, o, none⟩ := fun o => (hbel.cell (p := ⟨g, o, none⟩) (by simp; omega)).trans ((unhide H1).cell (p := ⟨g, o, none⟩) (by simpa using hg))
      have d1 : wr.cell? ⟨g, j * 2, none⟩ = some (.int .u64 p) := (hWg _).trans c1
      have d2 : wr.cell? ⟨g, j * 2 + 1, none⟩ = some (.int .u8 c) := (hWg _).trans c2
      have hp0 := hbx.1.1; have hp1 := hbx.1.2
      have hj2 : (j : Int) < L.length := by omega
      have hal2 : acc.length ≤ 65537 := by cases dn <;> simp at hal <;> omega
      have HAL := hide hal; have HO := hide hown; have HBE := hide hbel; have HSZ := hide hsz; have HR := hide hR; have HJ := hide hlt
      clear hal hown hbel hsz hx0 hx1 hcs c1 c2 hWg hbx hR hj
      cases dn
      · by_cases hap : a ≤ p
        · by_cases hpa : p = a
          · -- written, the old one dropped
            rw [setL_1 a b p c _ hap hpa] at heq
            have t : (p != a) = false := by simpa using hpa
            have HQ := hide heq
            clear heq hpa hlt
            go_wp2_with (at_builtin; refine wpList_append_own _ rfl (.tmp 31) (.tmp 35) 49 rfl (w.heap.size + 2) 173 i0 (.agg #[.int .u64 0, .int .u8 0]) 2 16 Tryz.underlying49 hi hz0 hz1 hz2 rfl (by decide) (.slice ads acc.length caps) acc.length (cl acc) rfl ((unhide HO).alloc _) ⟨wr.heap.size, 0, none⟩ 1 1 [.int .u64 a, .int .u8 b] rfl rfl (two_new _ _ _ _) ?c2 ?c3 ?c4 ?c5 ?_)
            case c2 => first | exact ⟨rfl, rfl⟩ | (intro u hu; simp at hu; rcases hu with rfl | rfl <;> rfl)
            case c3 => unfold maxLen; omega
            case c4 => omega
            case c5 => have := unhide HSZ; simp; omega
            intro v' w3 hown3 hgrow _
            obtain ⟨g1, cap1, hv1, ho1, hb1, hB1⟩ := app_one (w.heap.size + 2) W wr w3 _ v' acc (a, b) (unhide HBE) (unhide HSZ) (unhide HO) hown3 hgrow
            rw [hv1]
            have hq3 : w3.cell? ⟨w.heap.size, 2, none⟩ = some (.slice (some ⟨g, 0, none⟩) L.length cap) := by rw [cell_of_row w3 _ 2 _ _ _ ((hb1.block w.heap.size (by omega)).trans (unhide H0))]; rfl
            have hgl : g < w.heap.size := hg
            have hbr1 : ∀ o, w3.cell? ⟨g, o, none⟩ = wr.cell? ⟨g, o, none⟩ := fun o => (hb1.cell (p := ⟨g, o, none⟩) (by simp; omega)).trans (((unhide HBE).cell (p := ⟨g, o, none⟩) (by simp; omega)).symm)
            have d3 := (hbr1 _).trans d1
            have d4 := (hbr1 _).trans d2
            have HO1 := hide ho1; have HB1 := hide hb1; have HZ1 := hide hB1
            clear hown3 hgrow ho1 hb1 hB1 hv1 hbr1 d1 d2 hq2
            go_wp2
            go_roundw
            case rel => exact ⟨j + 1, acc ++ [(a, b)], true, _, _, by omega, by go_num, rfl, rfl, by have := unhide HAL; simp at this ⊢; omega, by rw [unhide HR, ← unhide HQ]; simp, unhide HO1, unhide HB1, unhide HZ1⟩
            case measure => simp [intOf]; omega
          · rw [setL_2 a b p c _ hap hpa] at heq
            have t : (p != a) = true := by simpa using hpa
            have HQ := hide heq
            clear heq hpa hlt
            go_wp2_with (at_builtin; refine wpList_append_own _ rfl (.tmp 31) (.tmp 35) 49 rfl (w.heap.size + 2) 173 i0 (.agg #[.int .u64 0, .int .u8 0]) 2 16 Tryz.underlying49 hi hz0 hz1 hz2 rfl (by decide) (.slice ads acc.length caps) acc.length (cl acc) rfl ((unhide HO).alloc _) ⟨wr.heap.size, 0, none⟩ 1 1 [.int .u64 a, .int .u8 b] rfl rfl (two_new _ _ _ _) ?c2 ?c3 ?c4 ?c5 ?_)
            case c2 => first | exact ⟨rfl, rfl⟩ | (intro u hu; simp at hu; rcases hu with rfl | rfl <;> rfl)
            case c3 => unfold maxLen; omega
            case c4 => omega
            case c5 => have := unhide HSZ; simp; omega
            intro v' w3 hown3 hgrow _
            obtain ⟨g1, cap1, hv1, ho1, hb1, hB1⟩ := app_one (w.heap.size + 2) W wr w3 _ v' acc (a, b) (unhide HBE) (unhide HSZ) (unhide HO) hown3 hgrow
            rw [hv1]
            have hq3 : w3.cell? ⟨w.heap.size, 2, none⟩ = some (.slice (some ⟨g, 0, none⟩) L.length cap) := by rw [cell_of_row w3 _ 2 _ _ _ ((hb1.block w.heap.size (by omega)).trans (unhide H0))]; rfl
            have hgl : g < w.heap.size := hg
            have hbr1 : ∀ o, w3.cell? ⟨g, o, none⟩ = wr.cell? ⟨g, o, none⟩ := fun o => (hb1.cell (p := ⟨g, o, none⟩) (by simp; omega)).trans (((unhide HBE).cell (p := ⟨g, o, none⟩) (by simp; omega)).symm)
            have d3 := (hbr1 _).trans d1
            have d4 := (hbr1 _).trans d2
            have HO1 := hide ho1; have HB1 := hide hb1; have HZ1 := hide hB1
            clear hown3 hgrow ho1 hb1 hB1 hv1 hbr1 d1 d2 hq2
            have hl1 : (acc ++ [(a, b)]).length ≤ 65538 := by simp; omega
            generalize hacc : acc ++ [(a, b)] = acc1 at *
            have HAC := hide hacc; clear hacc
            go_wp2_with (at_builtin; refine wpList_append_own _ rfl (.tmp 45) (.tmp 51) 49 rfl (w.heap.size + 2) 173 i0 (.agg #[.int .u64 0, .int .u8 0]) 2 16 Tryz.underlying49 hi hz0 hz1 hz2 rfl (by decide) (.slice (some ⟨g1, 0, none⟩) acc1.length cap1) acc1.length (cl acc1) rfl ((unhide HO1).alloc _) ⟨w3.heap.size, 0, none⟩ 1 1 [.int .u64 p, .int .u8 c] rfl rfl (two_new _ _ _ _) ?c2 ?c3 ?c4 ?c5 ?_)
            case c2 => first | exact ⟨rfl, rfl⟩ | (intro u hu; simp at hu; rcases hu with rfl | rfl <;> rfl)
            case c3 => unfold maxLen; omega
            case c4 => omega
            case c5 => have := unhide HZ1; simp; omega
            intro v'' w4 hown4 hgrow2 _
            obtain ⟨g2, cap2, hv2, ho2, hb2, hB2⟩ := app_one (w.heap.size + 2) W w3 w4 _ v'' acc1 (p, c) (unhide HB1) (unhide HZ1) (unhide HO1) hown4 hgrow2
            have HO2 := hide ho2; have HB2 := hide hb2; have HZ2 := hide hB2
            clear hown4 hgrow2 ho2 hb2 hB2
            rw [hv2]
            clear hv2
            go_wp2
            go_roundw
            case rel => exact ⟨j + 1, acc1 ++ [(p, c)], true, _, _, by omega, by go_num, rfl, rfl, by have := unhide HAL; rw [← unhide HAC]; simp at this ⊢; omega, by rw [unhide HR, ← unhide HQ, ← unhide HAC]; simp, unhide HO2, unhide HB2, unhide HZ2⟩
            case measure => simp [intOf]; omega
        · rw [setL_3 a b p c _ hap] at heq
          have t : (p != a) = true := by simp; omega
          have HQ := hide heq
          have hap2 : p < a := by omega
          clear heq hap hlt
          go_wp2_with (at_builtin; refine wpList_append_own _ rfl (.tmp 45) (.tmp 51) 49 rfl (w.heap.size + 2) 173 i0 (.agg #[.int .u64 0, .int .u8 0]) 2 16 Tryz.underlying49 hi hz0 hz1 hz2 rfl (by decide) (.slice ads acc.length caps) acc.length (cl acc) rfl ((unhide HO).alloc _) ⟨wr.heap.size, 0, none⟩ 1 1 [.int .u64 p, .int .u8 c] rfl rfl (two_new _ _ _ _) ?c2 ?c3 ?c4 ?c5 ?_)
          case c2 => first | exact ⟨rfl, rfl⟩ | (intro u hu; simp at hu; rcases hu with rfl | rfl <;> rfl)
          case c3 => unfold maxLen; omega
          case c4 => omega
          case c5 => have := unhide HSZ; simp; omega
          intro v' w3 hown3 hgrow _
          obtain ⟨g1, cap1, hv1, ho1, hb1, hB1⟩ := app_one (w.heap.size + 2) W wr w3 _ v' acc (p, c) (unhide HBE) (unhide HSZ) (unhide HO) hown3 hgrow
          rw [hv1]
          have HO1 := hide ho1; have HB1 := hide hb1; have HZ1 := hide hB1
          clear hown3 hgrow ho1 hb1 hB1 hv1
          go_wp2
          go_roundw
          case rel => exact ⟨j + 1, acc ++ [(p, c)], false, _, _, by omega, by go_num, rfl, rfl, by have := unhide HAL; simp at this ⊢; omega, by rw [unhide HR, ← unhide HQ]; simp, unhide HO1, unhide HB1, unhide HZ1⟩
          case measure => simp [intOf]; omega
      · by_cases hpa : p = a
        · rw [setL_4 a b p c _ hpa] at heq
          have t : (p != a) = false := by simpa using hpa
          have HQ := hide heq
          clear heq hpa hlt
          go_wp2
          go_roundw
          case rel => exact ⟨j + 1, acc, true, _, _, by omega, by go_num, rfl, rfl, by have := unhide HAL; simp at this ⊢; omega, by rw [unhide HR, ← unhide HQ], unhide HO, unhide HBE, unhide HSZ⟩
          case measure => simp [intOf]; omega
        · rw [setL_5 a b p c _ hpa] at heq
          have t : (p != a) = true := by simpa using hpa
          have HQ := hide heq
          clear heq hpa hlt
          go_wp2_with (at_builtin; refine wpList_append_own _ rfl (.tmp 45) (.tmp 51) 49 rfl (w.heap.size + 2) 173 i0 (.agg #[.int .u64 0, .int .u8 0]) 2 16 Tryz.underlying49 hi hz0 hz1 hz2 rfl (by decide) (.slice ads acc.length caps) acc.length (cl acc) rfl ((unhide HO).alloc _) ⟨wr.heap.size, 0, none⟩ 1 1 [.int .u64 p, .int .u8 c] rfl rfl (two_new _ _ _ _) ?c2 ?c3 ?c4 ?c5 ?_)
          case c2 => first | exact ⟨rfl, rfl⟩ | (intro u hu; simp at hu; rcases hu with rfl | rfl <;> rfl)
          case c3 => unfold maxLen; omega
          case c4 => omega
          case c5 => have := unhide HSZ; simp; omega
          intro v' w3 hown3 hgrow _
          obtain ⟨g1, cap1, hv1, ho1, hb1, hB1⟩ := app_one (w.heap.size + 2) W wr w3 _ v' acc (p, c) (unhide HBE) (unhide HSZ) (unhide HO) hown3 hgrow
          rw [hv1]
          have HO1 := hide ho1; have HB1 := hide hb1; have HZ1 := hide hB1
          clear hown3 hgrow ho1 hb1 hB1 hv1
          go_wp2
          go_roundw
          case rel => exact ⟨j + 1, acc ++ [(p, c)], true, _, _, by omega, by go_num, rfl, rfl, by have := unhide HAL; simp at this ⊢; omega, by rw [unhide HR, ← unhide HQ]; simp, unhide HO1, unhide HB1, unhide HZ1⟩
          case measure => simp [intOf]; omega
    · obtain rfl : j = L.length := by omega
      rw [List.drop_length] at heq
      have hal2 : acc.length ≤ 65537 := by cases dn <;> simp at hal <;> omega
      have hq2' := hq2
      have HO := hide hown; have HBE := hide hbel; have HSZ := hide hsz
      have HX0 := hide hx0; have HX1 := hide hx1
      clear hown hbel hsz hal hj hx0 hx1
      cases dn
      · have heq2 : acc ++ [(a, b)] = R := heq
        have HQ := hide heq2
        clear heq heq2 hR
        go_wp2_with (at_builtin; refine wpList_append_own _ rfl (.tmp 55) (.tmp 59) 49 rfl (w.heap.size + 2) 173 i0 (.agg #[.int .u64 0, .int .u8 0]) 2 16 Tryz.underlying49 hi hz0 hz1 hz2 rfl (by decide) (.slice ads acc.length caps) acc.length (cl acc) rfl ((unhide HO).alloc _) ⟨wr.heap.size, 0, none⟩ 1 1 [.int .u64 a, .int .u8 b] rfl rfl (two_new _ _ _ _) ?c2 ?c3 ?c4 ?c5 ?_)
        case c2 => first | exact ⟨rfl, rfl⟩ | (intro u hu; simp at hu; rcases hu with rfl | rfl <;> rfl)
        case c3 => unfold maxLen; omega
        case c4 => omega
        case c5 => have := unhide HSZ; simp; omega
        intro v' w3 hown3 hgrow _
        obtain ⟨g1, cap1, hv1, ho1, hb1, hB1⟩ := app_one (w.heap.size + 2) W wr w3 _ v' acc (a, b) (unhide HBE) (unhide HSZ) (unhide HO) hown3 hgrow
        rw [unhide HQ] at hv1 ho1
        have hx0 := (hb1.block w.heap.size (by omega)).trans (unhide H0)
        have hx1 := (hb1.block (w.heap.size + 1) (by omega)).trans (unhide H2)
        rw [hv1]
        clear hown3 hgrow hv1 hq2 hq2' HX0 HX1
        have q0 : w3.cell? ⟨w.heap.size, 0, none⟩ = some (.int .i64 P) := by rw [cell_of_row w3 _ 0 _ _ _ hx0]; rfl
        have q1 : w3.cell? ⟨w.heap.size, 1, none⟩ = some (.int .i64 k) := by rw [cell_of_row w3 _ 1 _ _ _ hx0]; rfl
        have q2 : w3.cell? ⟨w.heap.size, 2, none⟩ = some (.slice ad L.length cap) := by rw [cell_of_row w3 _ 2 _ _ _ hx0]; rfl
        have f2 := frozen_of_row w3 w.heap.size 2 _ _ hx0
        have r0 : w3.cell? ⟨w.heap.size + 1, 0, none⟩ = some (.int .i64 0) := by rw [cell_of_row w3 _ 0 _ _ _ hx1]; rfl
        have r1 : w3.cell? ⟨w.heap.size + 1, 1, none⟩ = some (.int .i64 0) := by rw [cell_of_row w3 _ 1 _ _ _ hx1]; rfl
        have r2 : w3.cell? ⟨w.heap.size + 1, 2, none⟩ = some (.slice none 0 0) := by rw [cell_of_row w3 _ 2 _ _ _ hx1]; rfl
        have g0 := frozen_of_row w3 (w.heap.size + 1) 0 _ _ hx1
        have g1' := frozen_of_row w3 (w.heap.size + 1) 1 _ _ hx1
        have g2 := frozen_of_row w3 (w.heap.size + 1) 2 _ _ hx1
        have HO1 := hide ho1; have HB1 := hide hb1; have HZ1 := hide hB1
        clear ho1 hb1 hB1 hx0 hx1
        have hfin := set_fin w.heap.size w W w3 (.slice (some ⟨g1, 0, none⟩) R.length cap1) _ (cl R) (.slice (some ⟨g1, 0, none⟩) R.length cap1) (.int .i64 P) (.int .i64 k) (.slice (some ⟨g1, 0, none⟩) R.length cap1) (unhide H1) (unhide HB1) (by have := (unhide H1).size; omega) (unhide HO1)
        have HF := hide hfin
        clear hfin
        go_wp2
        exact bodyPost_ret (v := .agg #[.int .i64 P, .int .i64 k, .slice (some ⟨g1, 0, none⟩) R.length cap1]) (by simp [results, Tryz.results73, go_sem, r0, r1, r2]) rfl ⟨_, _, rfl, (unhide HF).1, (unhide HF).2⟩
      · have heq2 : acc = R := by simpa [setL] using heq
        subst heq2
        have ho1 := unhide HO; have hb1 := unhide HBE; have hB1 := unhide HSZ
        have hx0 := unhide HX0; have hx1 := unhide HX1
        clear heq hR HX0 HX1 hq2 hq2'
        have q0 : wr.cell? ⟨w.heap.size, 0, none⟩ = some (.int .i64 P) := by rw [cell_of_row wr _ 0 _ _ _ hx0]; rfl
        have q1 : wr.cell? ⟨w.heap.size, 1, none⟩ = some (.int .i64 k) := by rw [cell_of_row wr _ 1 _ _ _ hx0]; rfl
        have q2 : wr.cell? ⟨w.heap.size, 2, none⟩ = some (.slice ad L.length cap) := by rw [cell_of_row wr _ 2 _ _ _ hx0]; rfl
        have f2 := frozen_of_row wr w.heap.size 2 _ _ hx0
        have r0 : wr.cell? ⟨w.heap.size + 1, 0, none⟩ = some (.int .i64 0) := by rw [cell_of_row wr _ 0 _ _ _ hx1]; rfl
        have r1 : wr.cell? ⟨w.heap.size + 1, 1, none⟩ = some (.int .i64 0) := by rw [cell_of_row wr _ 1 _ _ _ hx1]; rfl
        have r2 : wr.cell? ⟨w.heap.size + 1, 2, none⟩ = some (.slice none 0 0) := by rw [cell_of_row wr _ 2 _ _ _ hx1]; rfl
        have g0 := frozen_of_row wr (w.heap.size + 1) 0 _ _ hx1
        have g1' := frozen_of_row wr (w.heap.size + 1) 1 _ _ hx1
        have g2 := frozen_of_row wr (w.heap.size + 1) 2 _ _ hx1
        have HO1 := hide ho1; have HB1 := hide hb1; have HZ1 := hide hB1
        clear ho1 hb1 hB1 hx0 hx1
        have hfin := set_fin w.heap.size w W wr (.slice ads acc.length caps) _ (cl acc) (.slice ads acc.length caps) (.int .i64 P) (.int .i64 k) (.slice ads acc.length caps) (unhide H1) (unhide HB1) (by have := (unhide H1).size; omega) (unhide HO1)
        have HF := hide hfin
        clear hfin
        go_wp2
        exact bodyPost_ret (v := .agg #[.int .i64 P, .int .i64 k, .slice ads acc.length caps]) (by simp [results, Tryz.results73, go_sem, r0, r1, r2]) rfl ⟨_, _, rfl, (unhide HF).1, (unhide HF).2⟩
end Go.Proofs.YtcljcnaglkbjcaaGreatDoor

/- The document's Store. -/
namespace Go.Proofs.YtcljcnaglkbjcaaGreatDoor
open Go.RowKit Mm
set_option linter.unusedVariables false

theorem LRow.of {w : World} {B : Nat} {v : Value} {zs : List Int} (h : w.ownsRow B 173 2 v (nz zs 0).length (cl (nz zs 0))) (hl : zs.length ≤ 65536) (hby : ∀ z ∈ zs, 0 ≤ z ∧ z ≤ 255) : LRow w B v (nz zs 0) := by
  refine ⟨h, Nat.le_trans (nz_len zs 0) hl, fun x hx => ?_⟩
  obtain ⟨j, h1, h2, h3⟩ := nz_mem zs 0 x hx
  have := bytes_at hby j
  rw [h2, h3]
  omega
/-- three cells of a box written anew -/
theorem box3 {w : World} {b : Nat} {t : TypeId} {x y z : Value} (h : w.heap[b]? = some (.cells #[x, y, z] t (0, 0))) (x' y' z' : Value) :
    (((w.setCell ⟨b, 0, none⟩ x').setCell ⟨b, 1, none⟩ y').setCell ⟨b, 2, none⟩ z').heap[b]? = some (.cells #[x', y', z'] t (0, 0)) ∧
      w.grownBy (((w.setCell ⟨b, 0, none⟩ x').setCell ⟨b, 1, none⟩ y').setCell ⟨b, 2, none⟩ z') (some b) ∧
      (((w.setCell ⟨b, 0, none⟩ x').setCell ⟨b, 1, none⟩ y').setCell ⟨b, 2, none⟩ z').heap.size = w.heap.size := by
  have h1 := heap_setCell_same w b 0 _ _ x' h
  have h2 := heap_setCell_same _ b 1 _ _ y' h1
  have h3 := heap_setCell_same _ b 2 _ _ z' h2
  refine ⟨by rw [h3]; rfl, ⟨rfl, rfl, rfl, by simp [World.setCell], fun k hk hne => ?_⟩, by simp [World.setCell]⟩
  have hn : k ≠ b := fun e => hne (by rw [e])
  rw [heap_setCell_other _ _ k _ (by simpa using hn), heap_setCell_other _ _ k _ (by simpa using hn), heap_setCell_other _ _ k _ (by simpa using hn)]
theorem LRow.box {w w' : World} {B b : Nat} {v : Value} {L : List (Int × Int)} {cs : Array Value} (h : LRow w B v L) (hb : w.heap[b]? = some (.cells cs 51 (0, 0))) (hg : w.grownBy w' (some b)) : LRow w' B v L := by
  refine h.keep hg ?_
  rcases h.own.2 with ⟨rfl, _⟩ | ⟨g', cap', cur, rfl, hg', hb', _⟩
  · left; rfl
  · right
    simp only [Value.ownBlock]
    intro e
    cases e
    have := hb.symm.trans hb'
    simp at this
theorem grown_below {w w0 w' : World} {S b : Nat} (h : Below S w0 w) (hg : w.grownBy w' (some b)) (hS : S ≤ w.heap.size) (hb : S ≤ b) : Below S w0 w' := h.grown hg hS (fun k e => by cases e; exact hb)

set_option maxRecDepth 100000 in
set_option maxHeartbeats 2000000 in
theorem refStore_yes {w : World} {B P : Nat} {r : Value} {zs : List Int} (h : LRow w B r (nz zs 0)) (hB : B ≤ w.heap.size) (hlen : zs.length = P * 4096) (hby : ∀ z ∈ zs, 0 ≤ z ∧ z ≤ 255) (k a o s v : Int) (hP : P ≤ 16) (ha : U64 a) (ho : U64 o) (hv : U64 v) (hf : fits (P * 4096) a o s = true) :
    Calls Tryz.prog 46 #[.agg #[.int .i64 P, .int .i64 k, r], .int .u64 a, .int .u64 o, .int .i64 s, .int .u64 v] w fun e w' => ∃ ad m cap,
      e = .returned (.tuple #[.agg #[.int .i64 P, .int .i64 k, .slice ad m cap], .bool true]) ∧ LRow w' B (.slice ad m cap) (nz (stZ zs (a + o).toNat s.toNat v) 0) ∧ Below w.heap.size w w' := by
  obtain ⟨ad, cap, rfl, hc1, hc2, _⟩ := h.shape
  obtain ⟨h1, h2⟩ := fits_iff.1 hf
  have hhas := fun wx => has_any P cap (nz zs 0).length ad k a o s wx hP ha ho
  rw [hf] at hhas
  obtain ⟨a0, a1⟩ := ha
  obtain ⟨o0, o1⟩ := ho
  obtain ⟨f, hfe⟩ := Int.eq_ofNat_of_zero_le (show 0 ≤ a + o by omega)
  obtain ⟨s', rfl⟩ := Int.eq_ofNat_of_zero_le (show 0 ≤ s by omega)
  rw [hfe]
  simp only [Int.toNat_natCast]
  have hs8 : s' ≤ 8 := by omega
  have hfn : f + s' ≤ P * 4096 := by omega
  obtain ⟨W, hW⟩ : ∃ W, (w.alloc (.cells #[.int .i64 P, .int .i64 k, .slice ad (nz zs 0).length cap] 51)).alloc (.cells #[.int .i64 0, .int .i64 0, .slice none 0 0] 51) = W := ⟨_, rfl⟩
  have hW1 : Below w.heap.size w W := by rw [← hW]; exact ((Below.refl _ _).alloc (Nat.le_refl _) _).alloc (by simp) _
  have hWs : W.heap.size = w.heap.size + 2 := by rw [← hW]; simp
  have hW0 : W.heap[w.heap.size]? = some (.cells #[.int .i64 P, .int .i64 k, .slice ad (nz zs 0).length cap] 51 (0, 0)) := by
    rw [← hW, Below.heap_alloc _ _ _ (by simp)]; exact heap_alloc_new _ _
  have hW2 : W.heap[w.heap.size + 1]? = some (.cells #[.int .i64 0, .int .i64 0, .slice none 0 0] 51 (0, 0)) := by
    rw [← hW]; have := heap_alloc_new (w.alloc (.cells #[.int .i64 P, .int .i64 k, .slice ad (nz zs 0).length cap] 51)) (.cells #[.int .i64 0, .int .i64 0, .slice none 0 0] 51); simpa using this
  have H := hide h; have HW := hide hW; have H1 := hide hW1; have HS := hide hWs; have H0 := hide hW0; have H2 := hide hW2; have HH := hide hhas; have HE := hide hfe; have HV := hide hv
  clear h hf hhas h1 h2 hfe hc1 hc2 hW hW1 hWs hW0 hW2 hv
  generalize hn : (nz zs 0).length = n at *
  have HN := hide hn; clear hn
  go_enter Tryz.func46, Tryz.ntmps46
  go_wp2_with fail
  rw [unhide HW]
  refine (unhide HH _).mono ?_
  rintro e w1 ⟨rfl, hb1⟩
  have hB1 := (unhide H1).trans (hb1.mono (by rw [unhide HS]; omega))
  have hx0 := (hb1.block w.heap.size (by rw [unhide HS]; omega)).trans (unhide H0)
  have hx1 := (hb1.block (w.heap.size + 1) (by rw [unhide HS]; omega)).trans (unhide H2)
  have hL1 := (unhide H).below (hB1)
  have HB := hide hB1; have HX0 := hide hx0; have HX1 := hide hx1; have HL := hide hL1
  clear hb1 hB1 hx0 hx1 hL1 HW H1 HS H0 H2 HH H
  go_wp2_with fail
  go_loopw [4, 12] (fun x i wr => ∃ (j : Nat) (y : Int) (ys : List Int) (ad : Option Addr) (n cap : Nat), j ≤ s' ∧ i = .int .i64 j ∧ x = .int .u64 y ∧ U64 y ∧ ys.length = P * 4096 ∧ (∀ z ∈ ys, 0 ≤ z ∧ z ≤ 255) ∧ stZ ys (f + j) (s' - j) y = stZ zs f s' v ∧
    LRow wr B (.slice ad n cap) (nz ys 0) ∧ Below w.heap.size w wr ∧ wr.heap[w.heap.size]? = some (.cells #[.int .i64 P, .int .i64 k, .slice ad n cap] 51 (0, 0)) ∧ wr.heap[w.heap.size + 1]? = some (.cells #[.int .i64 0, .int .i64 0, .slice none 0 0] 51 (0, 0))) (fun _ i _ => (s' - intOf i).toNat)
  case atStart => exact ⟨0, v, zs, ad, n, cap, by omega, rfl, rfl, unhide HV, hlen, hby, rfl, unhide HL, unhide HB, unhide HX0, unhide HX1⟩
  case round =>
    obtain ⟨j, y, ys, ad, n, cap, hj, rfl, rfl, ⟨y0, y1⟩, hyl, hyb, hst, hL, hbr, hx0, hx1⟩ := hrel
    clear HB HX0 HX1 HL HN
    have q0 : wr.cell? ⟨w.heap.size, 0, none⟩ = some (.int .i64 P) := by rw [cell_of_row wr _ 0 _ _ _ hx0]; rfl
    have q1 : wr.cell? ⟨w.heap.size, 1, none⟩ = some (.int .i64 k) := by rw [cell_of_row wr _ 1 _ _ _ hx0]; rfl
    have q2 : wr.cell? ⟨w.heap.size, 2, none⟩ = some (.slice ad n cap) := by rw [cell_of_row wr _ 2 _ _ _ hx0]; rfl
    by_cases hlt : j < s'
    · have hset := set_any hL P k ((f + j : Nat) : Int) (y % 256) (by omega) (by omega)
      rw [nz_set ys 0 (f + j) (y % 256) (by omega) (by rw [hyl]; omega), Nat.sub_zero] at hset
      have hst2 : stZ (ys.set (f + j) (y % 256)) (f + (j + 1)) (s' - (j + 1)) (y / 256) = stZ zs f s' v := by
        rw [← hst, show s' - j = (s' - (j + 1)) + 1 from by omega, stZ]; rfl
      have hyl2 : (ys.set (f + j) (y % 256)).length = P * 4096 := by simpa using hyl
      have hyb2 : ∀ z ∈ ys.set (f + j) (y % 256), 0 ≤ z ∧ z ≤ 255 := fun z hz => by
        rcases List.mem_or_eq_of_mem_set hz with h | h
        · exact hyb z h
        · omega
      generalize ys.set (f + j) (y % 256) = ys2 at *
      have hfe := unhide HE
      have eadd : a + o + (j : Int) = ((f + j : Nat) : Int) := by omega
      have hao : a + o ≤ 65536 := by omega
      have hj8 : (j : Int) ≤ 7 := by omega
      have hjs : (j : Int) < s' := by omega
      have hw0 : w.heap.size < wr.heap.size := (Array.getElem?_eq_some_iff.1 hx0).1
      have hw1 : w.heap.size + 1 < wr.heap.size := (Array.getElem?_eq_some_iff.1 hx1).1
      have HB := hide hbr; have HX0 := hide hx0; have HX1 := hide hx1; have HG := hide hset; have HST := hide hst2; have HYL := hide hyl2; have HYB := hide hyb2; have HA := hide eadd
      clear hbr hx0 hx1 hset hst hst2 hyl hyl2 hyb hyb2 hL hfe eadd hlt hj
      go_wp2_with fail
      rw [unhide HA]
      refine (unhide HG).mono ?_
      rintro e w2 ⟨ad2, cap2, rfl, hown2, hb2⟩
      have hx0 := (hb2.block w.heap.size hw0).trans (unhide HX0)
      have hx1 := (hb2.block (w.heap.size + 1) hw1).trans (unhide HX1)
      have hB2 := Below.on (unhide HB) hb2
      generalize hn2 : (nz ys2 0).length = n2 at *
      have hL2 : LRow w2 B (.slice ad2 n2 cap2) (nz ys2 0) := (LRow.of (by rw [hn2]; exact hown2) (by rw [unhide HYL]; omega) (unhide HYB)).base (by omega)
      have hw2 : w.heap.size < w2.heap.size := (Array.getElem?_eq_some_iff.1 hx0).1
      obtain ⟨k1, k2, k3⟩ := box3 hx0 (.int .i64 P) (.int .i64 k) (.slice ad2 n2 cap2)
      have hL3 := hL2.box hx0 k2
      have hB3 := grown_below hB2 k2 (by omega) (Nat.le_refl _)
      have hx13 := (k2.block (w.heap.size + 1) (Array.getElem?_eq_some_iff.1 hx1).1 (by simp)).trans hx1
      have q0 : w2.cell? ⟨w.heap.size, 0, none⟩ = some (.int .i64 P) := by rw [cell_of_row w2 _ 0 _ _ _ hx0]; rfl
      have q1 : w2.cell? ⟨w.heap.size, 1, none⟩ = some (.int .i64 k) := by rw [cell_of_row w2 _ 1 _ _ _ hx0]; rfl
      have q2 : w2.cell? ⟨w.heap.size, 2, none⟩ = some (.slice ad n cap) := by rw [cell_of_row w2 _ 2 _ _ _ hx0]; rfl
      have f0 := frozen_of_row w2 w.heap.size 0 _ _ hx0
      have f1 := frozen_of_row w2 w.heap.size 1 _ _ hx0
      have f2 := frozen_of_row w2 w.heap.size 2 _ _ hx0
      have K1 := hide k1; have KL := hide hL3; have KB := hide hB3; have KX := hide hx13
      clear HB HX0 HX1 HG hb2 hB2 hx0 hx1 hown2 hL2 k1 k2 k3 hL3 hB3 hx13 hn2
      go_wp2
      go_roundw
      case rel => exact ⟨j + 1, y / 256, ys2, ad2, n2, cap2, by omega, by go_num, by go_num, ⟨by omega, by omega⟩, unhide HYL, unhide HYB, unhide HST, unhide KL, unhide KB, unhide K1, unhide KX⟩
      case measure => simp [intOf]; omega
    · obtain rfl : j = s' := by omega
      rw [Nat.sub_self, stZ] at hst
      obtain ⟨k1, k2, k3⟩ := box3 hx1 (.int .i64 P) (.int .i64 k) (.slice ad n cap)
      have hL3 := hL.box hx1 k2
      have hw1 : w.heap.size + 1 < wr.heap.size := (Array.getElem?_eq_some_iff.1 hx1).1
      have hB3 := grown_below hbr k2 (by omega) (by omega)
      rw [hst] at hL3
      have r0 : wr.cell? ⟨w.heap.size + 1, 0, none⟩ = some (.int .i64 0) := by rw [cell_of_row wr _ 0 _ _ _ hx1]; rfl
      have r1 : wr.cell? ⟨w.heap.size + 1, 1, none⟩ = some (.int .i64 0) := by rw [cell_of_row wr _ 1 _ _ _ hx1]; rfl
      have r2 : wr.cell? ⟨w.heap.size + 1, 2, none⟩ = some (.slice none 0 0) := by rw [cell_of_row wr _ 2 _ _ _ hx1]; rfl
      have g0 := frozen_of_row wr (w.heap.size + 1) 0 _ _ hx1
      have g1 := frozen_of_row wr (w.heap.size + 1) 1 _ _ hx1
      have g2 := frozen_of_row wr (w.heap.size + 1) 2 _ _ hx1
      have KL := hide hL3; have KB := hide hB3
      clear hL3 hB3 k1 k2 k3 hx0 hx1 hL hbr hst hyl hyb hj hlt
      go_wp2
      exact bodyPost_ret (v := .tuple #[.agg #[.int .i64 P, .int .i64 k, .slice ad n cap], .bool true]) (by simp [results, Tryz.results46, go_sem, r0, r1, r2]) rfl ⟨_, _, _, rfl, unhide KL, unhide KB⟩

set_option maxRecDepth 100000 in
set_option maxHeartbeats 1000000 in
theorem refStore_no (P cap m : Nat) (ad : Option Addr) (k a o s v : Int) (w : World) (hP : P ≤ 16) (ha : U64 a) (ho : U64 o) (hf : fits (P * 4096) a o s = false) :
    Calls Tryz.prog 46 #[.agg #[.int .i64 P, .int .i64 k, .slice ad m cap], .int .u64 a, .int .u64 o, .int .i64 s, .int .u64 v] w fun e w' =>
      e = .returned (.tuple #[.agg #[.int .i64 P, .int .i64 k, .slice ad m cap], .bool false]) ∧ Below w.heap.size w w' := by
  have hhas := fun wx => has_any P cap m ad k a o s wx hP ha ho
  rw [hf] at hhas
  obtain ⟨W, hW⟩ : ∃ W, (w.alloc (.cells #[.int .i64 P, .int .i64 k, .slice ad m cap] 51)).alloc (.cells #[.int .i64 0, .int .i64 0, .slice none 0 0] 51) = W := ⟨_, rfl⟩
  have hW1 : Below w.heap.size w W := by rw [← hW]; exact ((Below.refl _ _).alloc (Nat.le_refl _) _).alloc (by simp) _
  have hWs : W.heap.size = w.heap.size + 2 := by rw [← hW]; simp
  have hW0 : W.heap[w.heap.size]? = some (.cells #[.int .i64 P, .int .i64 k, .slice ad m cap] 51 (0, 0)) := by
    rw [← hW, Below.heap_alloc _ _ _ (by simp)]; exact heap_alloc_new _ _
  have hW2 : W.heap[w.heap.size + 1]? = some (.cells #[.int .i64 0, .int .i64 0, .slice none 0 0] 51 (0, 0)) := by
    rw [← hW]; have := heap_alloc_new (w.alloc (.cells #[.int .i64 P, .int .i64 k, .slice ad m cap] 51)) (.cells #[.int .i64 0, .int .i64 0, .slice none 0 0] 51); simpa using this
  have HW := hide hW; have H1 := hide hW1; have HS := hide hWs; have H0 := hide hW0; have H2 := hide hW2; have HH := hide hhas
  clear hhas hf ha ho hW hW1 hWs hW0 hW2
  go_enter Tryz.func46, Tryz.ntmps46
  go_wp2_with fail
  rw [unhide HW]
  refine (unhide HH _).mono ?_
  rintro e w1 ⟨rfl, hb1⟩
  have hB1 := (unhide H1).trans (hb1.mono (by rw [unhide HS]; omega))
  have hx0 := (hb1.block w.heap.size (by rw [unhide HS]; omega)).trans (unhide H0)
  have hx1 := (hb1.block (w.heap.size + 1) (by rw [unhide HS]; omega)).trans (unhide H2)
  have q0 : w1.cell? ⟨w.heap.size, 0, none⟩ = some (.int .i64 P) := by rw [cell_of_row w1 _ 0 _ _ _ hx0]; rfl
  have q1 : w1.cell? ⟨w.heap.size, 1, none⟩ = some (.int .i64 k) := by rw [cell_of_row w1 _ 1 _ _ _ hx0]; rfl
  have q2 : w1.cell? ⟨w.heap.size, 2, none⟩ = some (.slice ad m cap) := by rw [cell_of_row w1 _ 2 _ _ _ hx0]; rfl
  obtain ⟨k1, k2, k3⟩ := box3 hx1 (.int .i64 P) (.int .i64 k) (.slice ad m cap)
  have hw1 : w.heap.size + 1 < w1.heap.size := (Array.getElem?_eq_some_iff.1 hx1).1
  have hB3 := grown_below hB1 k2 (by omega) (by omega)
  have r0 : w1.cell? ⟨w.heap.size + 1, 0, none⟩ = some (.int .i64 0) := by rw [cell_of_row w1 _ 0 _ _ _ hx1]; rfl
  have r1 : w1.cell? ⟨w.heap.size + 1, 1, none⟩ = some (.int .i64 0) := by rw [cell_of_row w1 _ 1 _ _ _ hx1]; rfl
  have r2 : w1.cell? ⟨w.heap.size + 1, 2, none⟩ = some (.slice none 0 0) := by rw [cell_of_row w1 _ 2 _ _ _ hx1]; rfl
  have g0 := frozen_of_row w1 (w.heap.size + 1) 0 _ _ hx1
  have g1 := frozen_of_row w1 (w.heap.size + 1) 1 _ _ hx1
  have g2 := frozen_of_row w1 (w.heap.size + 1) 2 _ _ hx1
  have KB := hide hB3
  clear hB3 k1 k2 k3 hx0 hx1 hb1 hB1
  go_wp2
  exact bodyPost_ret (v := .tuple #[.agg #[.int .i64 P, .int .i64 k, .slice ad m cap], .bool false]) (by simp [results, Tryz.results46, go_sem, r0, r1, r2]) rfl ⟨rfl, unhide KB⟩
end Go.Proofs.YtcljcnaglkbjcaaGreatDoor
