/- Plain mathematics of the document's memory: the list of the bytes that are not 0, by their places. -/
import Derived.Test.YtdeblcbdapggnaaMemM
import Derived.Test.YtdeblcbdapggnaaMemG
namespace Go.Proofs.Ytdeblcbdapggnaa
set_option linter.unusedVariables false
namespace Mm

/-- the bytes that are not 0, with their places, the first of which is i -/
def nz : List Int → Nat → List (Int × Int)
  | [], _ => []
  | z :: zs, i => if z = 0 then nz zs (i + 1) else ((i : Int), z) :: nz zs (i + 1)
def getL : List (Int × Int) → Int → Int
  | [], _ => 0
  | (p, c) :: r, a => if p = a then c else getL r a
/-- what writing leaves of a list; d: it is written already -/
def setL (a b : Int) : Bool → List (Int × Int) → List (Int × Int)
  | d, [] => if d then [] else [(a, b)]
  | d, (p, c) :: r =>
    if d = false ∧ a ≤ p then (a, b) :: (if p = a then setL a b true r else (p, c) :: setL a b true r)
    else if p = a then setL a b d r else (p, c) :: setL a b d r
def stepL (h : Int) (x : Int × Int) : Int := IntKind.u64.wrap (bits .xor .u64 (IntKind.u64.wrap (bits .xor .u64 h x.1 * 1099511628211)) x.2 * 1099511628211)
def sumL (L : List (Int × Int)) : Int := L.foldl stepL 14695981039346656037

theorem nz_key : ∀ (zs : List Int) (i : Nat), ∀ p ∈ nz zs i, (i : Int) ≤ p.1
  | [], _, _, h => by simp [nz] at h
  | z :: zs, i, p, h => by
    rw [nz] at h
    split at h
    · have := nz_key zs (i + 1) p h; omega
    · rcases List.mem_cons.1 h with rfl | h
      · exact Int.le_refl _
      · have := nz_key zs (i + 1) p h; omega
theorem getL_gt : ∀ (L : List (Int × Int)) (a : Int), (∀ p ∈ L, a < p.1) → getL L a = 0
  | [], _, _ => rfl
  | (p, c) :: r, a, h => by
    rw [getL, if_neg (by have := h (p, c) (by simp); simp at this; omega)]
    exact getL_gt r a fun q hq => h q (by simp [hq])
theorem nz_get : ∀ (zs : List Int) (i a : Nat), i ≤ a → getL (nz zs i) a = zs[a - i]?.getD 0
  | [], _, _, _ => by simp [nz, getL]
  | z :: zs, i, a, h => by
    rw [nz]
    by_cases ha : a = i
    · subst ha
      have hg := getL_gt (nz zs (a + 1)) a fun p hp => by have := nz_key zs (a + 1) p hp; omega
      split
      · rename_i hz; rw [hg]; simp [hz]
      · simp [getL]
    · have ih := nz_get zs (i + 1) a (by omega)
      rw [show a - i = (a - (i + 1)) + 1 from by omega, List.getElem?_cons_succ]
      split
      · exact ih
      · rw [getL, if_neg (by omega)]; exact ih
theorem setL_gt : ∀ (L : List (Int × Int)) (a b : Int) (d : Bool), (∀ p ∈ L, a < p.1) → setL a b d L = if d then L else (a, b) :: L
  | [], a, b, d, _ => by rw [setL]
  | (p, c) :: r, a, b, d, h => by
    have hp : a < p := h (p, c) (by simp)
    have ih := setL_gt r a b true fun q hq => h q (by simp [hq])
    simp only [if_true] at ih
    rw [setL]
    cases d
    · rw [if_pos ⟨rfl, by omega⟩, if_neg (by omega), ih]; rfl
    · rw [if_neg (by simp), if_neg (by omega), ih]; rfl
theorem nz_set : ∀ (zs : List Int) (i a : Nat) (b : Int), i ≤ a → a < i + zs.length → setL a b (decide (b = 0)) (nz zs i) = nz (zs.set (a - i) b) i
  | [], _, _, _, h, h2 => by simp at h2; omega
  | z :: zs, i, a, b, h, h2 => by
    have hgt : ∀ (d : Bool), setL (i : Int) b d (nz zs (i + 1)) = if d then nz zs (i + 1) else ((i : Int), b) :: nz zs (i + 1) := fun d =>
      setL_gt _ _ _ _ fun p hp => by have := nz_key zs (i + 1) p hp; omega
    by_cases ha : a = i
    · subst ha
      rw [Nat.sub_self, List.set_cons_zero, nz, nz]
      by_cases hz : z = 0
      · rw [if_pos hz, hgt]
        by_cases hb : b = 0
        · simp [hb]
        · simp [hb]
      · rw [if_neg hz, setL]
        by_cases hb : b = 0
        · rw [if_pos hb, if_neg (by simp [hb]), if_pos rfl, hgt]; simp [hb]
        · rw [if_neg hb, if_pos (by simp [hb]), if_pos rfl, hgt]; simp
    · have ih := nz_set zs (i + 1) a b (by omega) (by simp at h2; omega)
      rw [show a - i = (a - (i + 1)) + 1 from by omega, List.set_cons_succ, nz, nz]
      by_cases hz : z = 0
      · rw [if_pos hz, if_pos hz, ih]
      · rw [if_neg hz, if_neg hz, setL, if_neg (by omega), if_neg (by omega), ih]
theorem nz_app : ∀ (zs ys : List Int) (i : Nat), nz (zs ++ ys) i = nz zs i ++ nz ys (i + zs.length)
  | [], ys, i => by simp [nz]
  | z :: zs, ys, i => by
    have ih := nz_app zs ys (i + 1)
    rw [List.cons_append, nz, nz, ih, show i + 1 + zs.length = i + (z :: zs).length from by simp; omega]
    split <;> simp
theorem nz_zero : ∀ (n i : Nat), nz (List.replicate n 0) i = []
  | 0, _ => rfl
  | n + 1, i => by rw [List.replicate_succ, nz, if_pos rfl, nz_zero n]
theorem nz_len : ∀ (zs : List Int) (i : Nat), (nz zs i).length ≤ zs.length
  | [], _ => by simp [nz]
  | z :: zs, i => by
    have := nz_len zs (i + 1)
    rw [nz]; split <;> simp <;> omega
theorem nz_mem : ∀ (zs : List Int) (i : Nat), ∀ p ∈ nz zs i, ∃ j : Nat, j < zs.length ∧ p.1 = ((i + j : Nat) : Int) ∧ p.2 = zs[j]?.getD 0
  | [], _, _, h => by simp [nz] at h
  | z :: zs, i, p, h => by
    have ih : p ∈ nz zs (i + 1) → ∃ j : Nat, j < (z :: zs).length ∧ p.1 = ((i + j : Nat) : Int) ∧ p.2 = (z :: zs)[j]?.getD 0 := fun hp => by
      obtain ⟨j, h1, h2, h3⟩ := nz_mem zs (i + 1) p hp
      exact ⟨j + 1, by simp; omega, by rw [h2]; congr 1; omega, by simpa using h3⟩
    rw [nz] at h
    split at h
    · exact ih h
    · rcases List.mem_cons.1 h with rfl | h
      · exact ⟨0, by simp, by simp, by simp⟩
      · exact ih h
theorem take_snoc' (zs : List Int) (k : Nat) (h : k < zs.length) : zs.take (k + 1) = zs.take k ++ [zs[k]?.getD 0] := by
  rw [List.take_succ_eq_append_getElem h]; simp [h]
theorem sumL_take (zs : List Int) : ∀ k, k ≤ zs.length → sumL (nz (zs.take k) 0) = sumZ zs k
  | 0, _ => rfl
  | k + 1, h => by
    have ih := sumL_take zs k (by omega)
    rw [take_snoc' zs k (by omega), nz_app, sumL, List.foldl_append]
    rw [sumL] at ih
    rw [ih, sumZ, sumB]
    have hl : (zs.take k).length = k := by simp; omega
    rw [hl, nz, nz]
    by_cases hz : zs[k]?.getD 0 = 0
    · rw [if_pos hz, if_pos hz]; rfl
    · rw [if_neg hz, if_neg hz]; simp [stepL]
theorem sumL_nz (zs : List Int) : sumL (nz zs 0) = sumZ zs zs.length := by
  have := sumL_take zs zs.length (Nat.le_refl _)
  rwa [List.take_length] at this
end Mm
end Go.Proofs.Ytdeblcbdapggnaa
