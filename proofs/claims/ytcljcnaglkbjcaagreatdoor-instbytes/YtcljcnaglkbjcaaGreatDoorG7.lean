/- G7: what follows, part by part: each part tells what it holds. -/
import Derived.Test.YtcljcnaglkbjcaaGreatDoorInD
import Derived.Test.YtcljcnaglkbjcaaGreatDoorOpFm
import Derived.Test.YtcljcnaglkbjcaaGreatDoorG6

/- The document's Load (chapter 9). -/
namespace Go.Proofs.YtcljcnaglkbjcaaGreatDoor
open Go.RowKit Go.Maps Go.Shelf Mm
set_option linter.unusedVariables false

set_option maxRecDepth 100000 in
theorem ld_tab : ((List.range 54).all fun n => ab n == 0 || (match fam n with | some x => (pk x.x x.y 2).length == 1 && (x.g == 126 || x.g == 127 && decide (ab n ≤ 4)) && !(nm n == []) | none => false)) = true := by kernel_rfl
theorem ld_fam (n : Nat) (hn : n < 54) (h : ab n ≠ 0) : ∃ x, fam n = some x ∧ (pk x.x x.y 2).length = 1 ∧ (x.g = 126 ∨ x.g = 127 ∧ ab n ≤ 4) ∧ nm n ≠ [] := by
  have h1 := List.all_eq_true.1 ld_tab n (List.mem_range.2 hn)
  cases hx : fam n with
  | none => rw [hx] at h1; simp [h] at h1
  | some x =>
    rw [hx] at h1
    simp only [Bool.or_eq_true, Bool.and_eq_true, beq_iff_eq, decide_eq_true_eq, Bool.not_eq_true', beq_eq_false_iff_ne, h, false_or] at h1
    exact ⟨x, rfl, h1.1.1, h1.1.2, h1.2⟩
set_option maxRecDepth 100000 in
theorem st_tab : ((List.range 63).all fun n => decide (n < 54) || ab n == 0 || (match fam n with | some x => (pk x.x x.y 2).length == 2 && !(nm n == []) | none => false)) = true := by kernel_rfl
theorem st_fam (n : Nat) (hn : 54 ≤ n) (h : ab n ≠ 0) : ∃ x, fam n = some x ∧ (pk x.x x.y 2).length = 2 ∧ nm n ≠ [] := by
  have h1 := List.all_eq_true.1 st_tab n (List.mem_range.2 (ab_lt n h))
  have hd : decide (n < 54) = false := by simp; omega
  cases hx : fam n with
  | none => rw [hx] at h1; simp [h, hd] at h1
  | some x =>
    rw [hx] at h1
    simp only [hd, Bool.or_eq_true, Bool.and_eq_true, beq_iff_eq, Bool.not_eq_true', beq_eq_false_iff_ne, h, false_or, Bool.false_eq_true] at h1
    exact ⟨x, rfl, h1.1, h1.2⟩
set_option maxRecDepth 100000 in
theorem lo36 : ∀ n, n < 37 → ab n = 0 := by decide
theorem signr_ex (n : Nat) (hn : n < 256) : ∃ zs r b, SignIs n zs r b := by
  by_cases h : nm n = [] ∨ n ≤ 36
  · exact ⟨_, _, _, signr_no n hn h⟩
  · obtain ⟨y, e1, _⟩ := ok_some n hn (fun e => h (.inl e))
    exact ⟨_, _, _, signr_at n hn (by omega) (fun e => h (.inl e)) y e1⟩
theorem gt36 (n : Nat) (h : ab n ≠ 0) : 36 < n := by
  rcases Nat.lt_or_ge 36 n with h1 | h1
  · exact h1
  · exact absurd (lo36 n (by omega)) h

set_option maxRecDepth 100000 in
set_option maxHeartbeats 1600000 in
theorem rl_no0 (n : Nat) (hn : n < 256) (h0 : ab n = 0) (ad : Option Addr) (m cap : Nat) (a o : Int) (w : World) :
    Calls Tryz.prog 22 #[.agg #[.int .i64 1, .int .i64 1, .slice ad m cap], .int .u8 n, .int .u64 a, .int .u32 o] w fun e w' => e = .returned (.tuple #[.int .u64 0, .int .i64 0, .bool false]) ∧ Below w.heap.size w w' := by
  have HBy := hide (bytesr_no n hn h0)
  obtain ⟨zs, r, b, hSi⟩ := signr_ex n hn
  have HSi := hide hSi
  have hb0 : Below w.heap.size w (w.alloc (.cells #[.int .i64 1, .int .i64 1, .slice ad m cap] 51)) := (Below.refl _ _).alloc (Nat.le_refl _) _
  have r0 := heap_alloc_new w (.cells #[.int .i64 1, .int .i64 1, .slice ad m cap] 51)
  have HB0 := hide hb0; have HR0 := hide r0
  clear hb0 r0
  clear h0 hn hSi
  go_enter Tryz.func22, Tryz.ntmps22
  go_wp2_with fail
  generalize w.alloc (.cells #[.int .i64 1, .int .i64 1, .slice ad m cap] 51) = w0 at *
  refine (unhide HBy _).mono ?_
  rintro e w1 ⟨rfl, hb1⟩
  have HB1 := hide (Below.on (unhide HB0) hb1); have HR1 := hide ((hb1.block _ (Array.getElem?_eq_some_iff.1 (unhide HR0)).1).trans (unhide HR0))
  clear hb1 HB0 HR0
  go_wp2_with fail
  refine (unhide HSi _).mono ?_
  rintro e w2 ⟨v2, rfl, ho2, hb2⟩
  obtain ⟨sa, sc, rfl⟩ := own_slice ho2
  have HB2 := hide (Below.on (unhide HB1) hb2); have HR2 := hide ((hb2.block _ (Array.getElem?_eq_some_iff.1 (unhide HR1)).1).trans (unhide HR1))
  clear hb2 ho2 HB1 HR1
  go_wp2
  go_ret3
  exact ⟨rfl, unhide HB2⟩

set_option maxRecDepth 100000 in
set_option maxHeartbeats 1600000 in
theorem rl_no1 (n : Nat) (hn : 54 ≤ n) (h0 : ab n ≠ 0) (ad : Option Addr) (m cap : Nat) (a o : Int) (w : World) :
    Calls Tryz.prog 22 #[.agg #[.int .i64 1, .int .i64 1, .slice ad m cap], .int .u8 n, .int .u64 a, .int .u32 o] w fun e w' => e = .returned (.tuple #[.int .u64 0, .int .i64 0, .bool false]) ∧ Below w.heap.size w w' := by
  have HBy := hide (bytesr_at n h0)
  obtain ⟨x, hx, hl, hnm⟩ := st_fam n hn h0
  have hSi := signr_at n (by have := ab_lt n h0; omega) (gt36 n h0) hnm x hx
  unfold SignIs at hSi
  simp only [hl] at hSi
  have HSi := hide hSi
  have hb0 : Below w.heap.size w (w.alloc (.cells #[.int .i64 1, .int .i64 1, .slice ad m cap] 51)) := (Below.refl _ _).alloc (Nat.le_refl _) _
  have r0 := heap_alloc_new w (.cells #[.int .i64 1, .int .i64 1, .slice ad m cap] 51)
  have HB0 := hide hb0; have HR0 := hide r0
  clear hb0 r0
  clear h0 hn hSi hx hl hnm
  generalize ab n = s at *
  generalize sfx (nm n) = sx at *
  go_enter Tryz.func22, Tryz.ntmps22
  go_wp2_with fail
  generalize w.alloc (.cells #[.int .i64 1, .int .i64 1, .slice ad m cap] 51) = w0 at *
  refine (unhide HBy _).mono ?_
  rintro e w1 ⟨rfl, hb1⟩
  have HB1 := hide (Below.on (unhide HB0) hb1); have HR1 := hide ((hb1.block _ (Array.getElem?_eq_some_iff.1 (unhide HR0)).1).trans (unhide HR0))
  clear hb1 HB0 HR0
  go_wp2_with fail
  refine (unhide HSi _).mono ?_
  rintro e w2 ⟨v2, rfl, ho2, hb2⟩
  obtain ⟨sa, sc, rfl⟩ := own_slice ho2
  have HB2 := hide (Below.on (unhide HB1) hb2); have HR2 := hide ((hb2.block _ (Array.getElem?_eq_some_iff.1 (unhide HR1)).1).trans (unhide HR1))
  clear hb2 ho2 HB1 HR1
  go_wp2
  go_ret3
  exact ⟨rfl, unhide HB2⟩

/-- what is asked of the document's own Load of a memory -/
def LdIs (n : Nat) (a o : Int) (ad : Option Addr) (m cap : Nat) (w : World) (z : Int) (b : Bool) : Prop := ∀ W, Below w.heap.size w W → Calls Tryz.prog 55 #[.agg #[.int .i64 1, .int .i64 1, .slice ad m cap], .int .u64 (a % 4294967296), .int .u64 o, .int .i64 (ab n)] W fun e w' => e = .returned (.tuple #[.int .u64 z, .bool b]) ∧ Below W.heap.size W w'

set_option maxRecDepth 100000 in
set_option maxHeartbeats 1600000 in
theorem rl_far (n : Nat) (hn : n < 54) (h0 : ab n ≠ 0) (ad : Option Addr) (m cap : Nat) (a o : Int) (ha : U64 a) (ho : 0 ≤ o ∧ o < 4294967296) (w : World) (hLd : LdIs n a o ad m cap w 0 false) :
    Calls Tryz.prog 22 #[.agg #[.int .i64 1, .int .i64 1, .slice ad m cap], .int .u8 n, .int .u64 a, .int .u32 o] w fun e w' => e = .returned (.tuple #[.int .u64 0, .int .i64 4, .bool true]) ∧ Below w.heap.size w w' := by
  have HBy := hide (bytesr_at n h0)
  obtain ⟨x, hx, hl, hg, hnm⟩ := ld_fam n hn h0
  have hSi := signr_at n (by omega) (gt36 n h0) hnm x hx
  unfold SignIs at hSi
  simp only [hl] at hSi
  unfold LdIs at hLd
  have HSi := hide hSi; have HLd := hide hLd
  obtain ⟨a0, a1⟩ := ha
  obtain ⟨o0, o1⟩ := ho
  have et : a.tmod 4294967296 = a % 4294967296 := Int.tmod_eq_emod_of_nonneg a0
  have hb0 : Below w.heap.size w (w.alloc (.cells #[.int .i64 1, .int .i64 1, .slice ad m cap] 51)) := (Below.refl _ _).alloc (Nat.le_refl _) _
  have r0 := heap_alloc_new w (.cells #[.int .i64 1, .int .i64 1, .slice ad m cap] 51)
  have HB0 := hide hb0; have HR0 := hide r0
  clear hb0 r0
  clear h0 hn hSi hx hl hnm hg hLd
  generalize ab n = s at *
  generalize sfx (nm n) = sx at *
  go_enter Tryz.func22, Tryz.ntmps22
  go_wp2_with fail
  generalize w.alloc (.cells #[.int .i64 1, .int .i64 1, .slice ad m cap] 51) = w0 at *
  refine (unhide HBy _).mono ?_
  rintro e w1 ⟨rfl, hb1⟩
  have HB1 := hide (Below.on (unhide HB0) hb1); have HR1 := hide ((hb1.block _ (Array.getElem?_eq_some_iff.1 (unhide HR0)).1).trans (unhide HR0))
  clear hb1 HB0 HR0
  go_wp2_with fail
  refine (unhide HSi _).mono ?_
  rintro e w2 ⟨v2, rfl, ho2, hb2⟩
  obtain ⟨sa, sc, rfl⟩ := own_slice ho2
  have HB2 := hide (Below.on (unhide HB1) hb2); have HR2 := hide ((hb2.block _ (Array.getElem?_eq_some_iff.1 (unhide HR1)).1).trans (unhide HR1))
  clear hb2 ho2 HB1 HR1
  obtain ⟨q0, q1, q2⟩ := ebox (unhide HR2)
  have lt2 := (Array.getElem?_eq_some_iff.1 (unhide HR2)).1
  go_wp2_with fail
  refine (unhide HLd _ (unhide HB2)).mono ?_
  rintro e w3 ⟨rfl, hb3⟩
  have HB3 := hide (Below.on (unhide HB2) hb3)
  clear hb3 HB2 HR2 q0 q1 q2 lt2
  go_wp2
  go_ret3
  exact ⟨rfl, unhide HB3⟩

set_option maxRecDepth 100000 in
set_option maxHeartbeats 1600000 in
theorem rl_plain (n : Nat) (hn : n < 54) (h0 : ab n ≠ 0) (hs : sfx (nm n) = false) (ad : Option Addr) (m cap : Nat) (a o z : Int) (ha : U64 a) (ho : 0 ≤ o ∧ o < 4294967296) (z0 : 0 ≤ z) (z1 : z < 256 ^ (ab n).toNat) (w : World) (hLd : LdIs n a o ad m cap w z true) :
    Calls Tryz.prog 22 #[.agg #[.int .i64 1, .int .i64 1, .slice ad m cap], .int .u8 n, .int .u64 a, .int .u32 o] w fun e w' => e = .returned (.tuple #[.int .u64 (ldW n z), .int .i64 0, .bool true]) ∧ Below w.heap.size w w' := by
  have eW : ldW n z = z := by unfold ldW; rw [hs]; rfl
  rw [eW]; clear eW
  have hBy := bytesr_at n h0
  rw [hs] at hBy
  have HBy := hide hBy
  obtain ⟨x, hx, hl, hg, hnm⟩ := ld_fam n hn h0
  have hSi := signr_at n (by omega) (gt36 n h0) hnm x hx
  unfold SignIs at hSi
  simp only [hl] at hSi
  unfold LdIs at hLd
  have HLd := hide hLd
  obtain ⟨a0, a1⟩ := ha
  obtain ⟨o0, o1⟩ := ho
  have et : a.tmod 4294967296 = a % 4294967296 := Int.tmod_eq_emod_of_nonneg a0
  have ez : x.g = 127 → z.tmod 4294967296 = z := fun h => by
    rw [Int.tmod_eq_emod_of_nonneg z0]
    have h4 : ab n ≤ 4 := by rcases hg with h1 | h1 <;> omega
    have h5 : (256 : Int) ^ (ab n).toNat ≤ 4294967296 := by
      rcases ab_sz n (by omega) h0 with e | e | e | e
      · rw [e]; decide
      · rw [e]; decide
      · rw [e]; decide
      · omega
    omega
  have hg2 : x.g = 126 ∨ x.g = 127 := by rcases hg with h1 | h1; exact .inl h1; exact .inr h1.1
  generalize x.g = G at *
  have HSi := hide hSi
  have hb0 : Below w.heap.size w (w.alloc (.cells #[.int .i64 1, .int .i64 1, .slice ad m cap] 51)) := (Below.refl _ _).alloc (Nat.le_refl _) _
  have r0 := heap_alloc_new w (.cells #[.int .i64 1, .int .i64 1, .slice ad m cap] 51)
  have HB0 := hide hb0; have HR0 := hide r0
  clear hb0 r0
  clear h0 hn hSi hx hl hnm hg hLd hBy z1 hs
  generalize ab n = s at *
  rcases hg2 with rfl | rfl
  · clear ez
    go_enter Tryz.func22, Tryz.ntmps22
    go_wp2_with fail
    generalize w.alloc (.cells #[.int .i64 1, .int .i64 1, .slice ad m cap] 51) = w0 at *
    refine (unhide HBy _).mono ?_
    rintro e w1 ⟨rfl, hb1⟩
    have HB1 := hide (Below.on (unhide HB0) hb1); have HR1 := hide ((hb1.block _ (Array.getElem?_eq_some_iff.1 (unhide HR0)).1).trans (unhide HR0))
    clear hb1 HB0 HR0
    go_wp2_with fail
    refine (unhide HSi _).mono ?_
    rintro e w2 ⟨v2, rfl, ho2, hb2⟩
    obtain ⟨sa, sc, rfl⟩ := own_slice ho2
    have HB2 := hide (Below.on (unhide HB1) hb2); have HR2 := hide ((hb2.block _ (Array.getElem?_eq_some_iff.1 (unhide HR1)).1).trans (unhide HR1))
    clear hb2 ho2 HB1 HR1
    obtain ⟨q0, q1, q2⟩ := ebox (unhide HR2)
    have lt2 := (Array.getElem?_eq_some_iff.1 (unhide HR2)).1
    go_wp2_with fail
    refine (unhide HLd _ (unhide HB2)).mono ?_
    rintro e w3 ⟨rfl, hb3⟩
    have HB3 := hide (Below.on (unhide HB2) hb3)
    clear hb3 HB2 HR2 q0 q1 q2 lt2
    go_wp2
    go_ret3
    exact ⟨rfl, unhide HB3⟩
  · have ez' := ez rfl
    clear ez
    go_enter Tryz.func22, Tryz.ntmps22
    go_wp2_with fail
    generalize w.alloc (.cells #[.int .i64 1, .int .i64 1, .slice ad m cap] 51) = w0 at *
    refine (unhide HBy _).mono ?_
    rintro e w1 ⟨rfl, hb1⟩
    have HB1 := hide (Below.on (unhide HB0) hb1); have HR1 := hide ((hb1.block _ (Array.getElem?_eq_some_iff.1 (unhide HR0)).1).trans (unhide HR0))
    clear hb1 HB0 HR0
    go_wp2_with fail
    refine (unhide HSi _).mono ?_
    rintro e w2 ⟨v2, rfl, ho2, hb2⟩
    obtain ⟨sa, sc, rfl⟩ := own_slice ho2
    have HB2 := hide (Below.on (unhide HB1) hb2); have HR2 := hide ((hb2.block _ (Array.getElem?_eq_some_iff.1 (unhide HR1)).1).trans (unhide HR1))
    clear hb2 ho2 HB1 HR1
    obtain ⟨q0, q1, q2⟩ := ebox (unhide HR2)
    have lt2 := (Array.getElem?_eq_some_iff.1 (unhide HR2)).1
    go_wp2_with fail
    refine (unhide HLd _ (unhide HB2)).mono ?_
    rintro e w3 ⟨rfl, hb3⟩
    have HB3 := hide (Below.on (unhide HB2) hb3)
    clear hb3 HB2 HR2 q0 q1 q2 lt2
    go_wp2
    go_ret3
    exact ⟨rfl, unhide HB3⟩
end Go.Proofs.YtcljcnaglkbjcaaGreatDoor

/- The document's Load (chapter 9): numbers with a sign. -/
namespace Go.Proofs.YtcljcnaglkbjcaaGreatDoor
open Go.RowKit Go.Maps Go.Shelf Mm
set_option linter.unusedVariables false

theorem ret3u {a b : Int} (h : a = b) : Ending.returned (.tuple #[.int .u64 a, .int .i64 0, .bool true]) = .returned (.tuple #[.int .u64 b, .int .i64 0, .bool true]) := by rw [h]
theorem or_pow (v i : Nat) (hv : v < 2 ^ i) (hi : i < 64) : bits .or .u64 (v : Int) ((2 ^ i : Nat) : Int) = ((v + 2 ^ i : Nat) : Int) := by
  have h64 : 2 ^ i < 18446744073709551616 := by
    have : (2 : Nat) ^ i ≤ 2 ^ 63 := Nat.pow_le_pow_right (by omega) (by omega)
    omega
  rw [bits_or_u64_nat v (2 ^ i) (by omega) h64]
  congr 1
  have := Nat.two_pow_add_eq_or_of_lt hv 1
  rw [Nat.mul_one] at this
  rw [Nat.or_comm, ← this]; omega
theorem or_more (x j b F : Nat) (hF : F = 2 ^ b) (hb : b ≤ j) (hj : j < 64) (hx : x < F) : bits .or .u64 ((x : Int) + ((2 ^ j - F : Nat) : Int)) (IntKind.u64.wrap (2 ^ j)) = ((x + (2 ^ (j + 1) - F) : Nat) : Int) := by
  have h64 : 2 ^ j < 18446744073709551616 := by
    have : (2 : Nat) ^ j ≤ 2 ^ 63 := Nat.pow_le_pow_right (by omega) (by omega)
    omega
  have hle : F ≤ 2 ^ j := by rw [hF]; exact Nat.pow_le_pow_right (by omega) hb
  have e1 : ((2 : Int) ^ j) = ((2 ^ j : Nat) : Int) := by simp
  have e2 : (x : Int) + ((2 ^ j - F : Nat) : Int) = ((x + (2 ^ j - F) : Nat) : Int) := by simp
  have e3 : IntKind.u64.wrap (2 ^ j) = ((2 ^ j : Nat) : Int) := by rw [e1, IntKind.wrap_u64]; omega
  rw [e3, e2, or_pow _ j (by omega) hj]
  congr 1
  rw [Nat.pow_succ]; omega

set_option maxRecDepth 100000 in
set_option maxHeartbeats 1600000 in
theorem rl_44 (ad : Option Addr) (m cap : Nat) (a o z : Int) (ha : U64 a) (ho : 0 ≤ o ∧ o < 4294967296) (z0 : 0 ≤ z) (z1 : z < 256) (w : World) (hLd : LdIs 44 a o ad m cap w z true) :
    Calls Tryz.prog 22 #[.agg #[.int .i64 1, .int .i64 1, .slice ad m cap], .int .u8 44, .int .u64 a, .int .u32 o] w fun e w' => e = .returned (.tuple #[.int .u64 (wsV 1 127 z), .int .i64 0, .bool true]) ∧ Below w.heap.size w w' := by
  have hA : wsV 1 127 z = (if z < 128 then z else z - 256) % 4294967296 := rfl
  have hBy : BytesIs 44 1 true true := bytesr_at 44 (by decide)
  have HBy := hide hBy
  obtain ⟨x, hx, hl, hg, hnm⟩ := ld_fam 44 (by omega) (by decide)
  have hSi := signr_at 44 (by omega) (by omega) hnm x hx
  unfold SignIs at hSi
  simp only [hl] at hSi
  have eg : x.g = 127 := by
    have : fam ((44 : Nat) : Int) = some ⟨44, 47, 4, 127, 0, 127⟩ := by rfl
    rw [this] at hx; rw [← Option.some.inj hx]
  rw [eg] at hSi
  have hLd' : ∀ W, Below w.heap.size w W → Calls Tryz.prog 55 #[.agg #[.int .i64 1, .int .i64 1, .slice ad m cap], .int .u64 (a % 4294967296), .int .u64 o, .int .i64 1] W fun e w' => e = .returned (.tuple #[.int .u64 z, .bool true]) ∧ Below W.heap.size W w' := hLd
  have HLd := hide hLd'; have HSi := hide hSi
  obtain ⟨a0, a1⟩ := ha
  obtain ⟨o0, o1⟩ := ho
  have et : a.tmod 4294967296 = a % 4294967296 := Int.tmod_eq_emod_of_nonneg a0
  have hb0 : Below w.heap.size w (w.alloc (.cells #[.int .i64 1, .int .i64 1, .slice ad m cap] 51)) := (Below.refl _ _).alloc (Nat.le_refl _) _
  have r0 := heap_alloc_new w (.cells #[.int .i64 1, .int .i64 1, .slice ad m cap] 51)
  have HB0 := hide hb0; have HR0 := hide r0
  clear hb0 r0
  clear hSi hx hl hnm hg hLd hLd' hBy eg
  by_cases hz : z < 128
  · rw [if_pos hz, Int.emod_eq_of_lt z0 (by omega)] at hA
    rw [hA]; clear hA
    have tz : (z / 128 == 1) = false := by simp; omega
    have ez : z.tmod 4294967296 = z := by rw [Int.tmod_eq_emod_of_nonneg z0]; omega
    clear hz
    go_enter Tryz.func22, Tryz.ntmps22
    go_wp2_with fail
    generalize w.alloc (.cells #[.int .i64 1, .int .i64 1, .slice ad m cap] 51) = w0 at *
    refine (unhide HBy _).mono ?_
    rintro e w1 ⟨rfl, hb1⟩
    have HB1 := hide (Below.on (unhide HB0) hb1); have HR1 := hide ((hb1.block _ (Array.getElem?_eq_some_iff.1 (unhide HR0)).1).trans (unhide HR0))
    clear hb1 HB0 HR0
    go_wp2_with fail
    refine (unhide HSi _).mono ?_
    rintro e w2 ⟨v2, rfl, ho2, hb2⟩
    obtain ⟨sa, sc, rfl⟩ := own_slice ho2
    have HB2 := hide (Below.on (unhide HB1) hb2); have HR2 := hide ((hb2.block _ (Array.getElem?_eq_some_iff.1 (unhide HR1)).1).trans (unhide HR1))
    clear hb2 ho2 HB1 HR1
    obtain ⟨q0, q1, q2⟩ := ebox (unhide HR2)
    have lt2 := (Array.getElem?_eq_some_iff.1 (unhide HR2)).1
    go_wp2_with fail
    refine (unhide HLd _ (unhide HB2)).mono ?_
    rintro e w3 ⟨rfl, hb3⟩
    have HB3 := hide (Below.on (unhide HB2) hb3)
    clear hb3 HB2 HR2 q0 q1 q2 lt2
    go_wp2
    go_ret3
    exact ⟨rfl, unhide HB3⟩
  · rw [if_neg hz] at hA
    have tz : (z / 128 == 1) = true := by simp; omega
    obtain ⟨x, rfl⟩ := Int.eq_ofNat_of_zero_le z0
    have hx1 : x < 256 := by omega
    have HX := hide hx1; have HA := hide hA
    clear hz hA z0 hx1
    go_enter Tryz.func22, Tryz.ntmps22
    go_wp2_with fail
    generalize w.alloc (.cells #[.int .i64 1, .int .i64 1, .slice ad m cap] 51) = w0 at *
    refine (unhide HBy _).mono ?_
    rintro e w1 ⟨rfl, hb1⟩
    have HB1 := hide (Below.on (unhide HB0) hb1); have HR1 := hide ((hb1.block _ (Array.getElem?_eq_some_iff.1 (unhide HR0)).1).trans (unhide HR0))
    clear hb1 HB0 HR0
    go_wp2_with fail
    refine (unhide HSi _).mono ?_
    rintro e w2 ⟨v2, rfl, ho2, hb2⟩
    obtain ⟨sa, sc, rfl⟩ := own_slice ho2
    have HB2 := hide (Below.on (unhide HB1) hb2); have HR2 := hide ((hb2.block _ (Array.getElem?_eq_some_iff.1 (unhide HR1)).1).trans (unhide HR1))
    clear hb2 ho2 HB1 HR1
    obtain ⟨q0, q1, q2⟩ := ebox (unhide HR2)
    have lt2 := (Array.getElem?_eq_some_iff.1 (unhide HR2)).1
    go_wp2_with fail
    refine (unhide HLd _ (unhide HB2)).mono ?_
    rintro e w3 ⟨rfl, hb3⟩
    have HB3 := hide (Below.on (unhide HB2) hb3)
    clear hb3 HB2 HR2 q0 q1 q2 lt2
    go_wp2_with fail
    go_loopw [17, 19] (fun v i wr => ∃ j : Nat, 8 ≤ j ∧ j ≤ 64 ∧ i = .int .i64 j ∧ v = .int .u64 ((x + (2 ^ j - 256) : Nat) : Int) ∧ wr = w3)
      (fun _ i _ => (64 - intOf i).toNat)
    case atStart => exact ⟨8, by omega, by omega, rfl, by simp, rfl⟩
    case round =>
      obtain ⟨j, hj0, hj1, rfl, rfl, rfl⟩ := hrel
      by_cases hlt : j < 64
      · have hlt' : (j : Int) < 64 := by omega
        have hj0' : (8 : Int) ≤ j := by omega
        have HJ := hide (And.intro hj0 hlt)
        clear hj0 hj1 hlt
        go_wp2
        go_roundw
        case rel => exact ⟨j + 1, by have := (unhide HJ).1; omega, by have := (unhide HJ).2; omega, by go_num, by rw [or_more x j 8 256 (by decide) (unhide HJ).1 (unhide HJ).2 (unhide HX)], by first | trivial | rfl⟩
        case measure => simp [intOf]; omega
      · obtain rfl : j = 64 := by omega
        clear hj0 hj1 hlt
        have hx1 := unhide HX
        have ex : ((x + (2 ^ 64 - 256) : Nat) : Int) = (x : Int) + 18446744073709551360 := by omega
        rw [ex]
        have ez : ((x : Int) + 18446744073709551360).tmod 4294967296 = ((x : Int) + 18446744073709551360) % 4294967296 := Int.tmod_eq_emod_of_nonneg (by omega)
        clear ex hx1
        go_wp2
        go_ret3
        exact ⟨by rw [unhide HA]; exact ret3u (by have := unhide HX; omega), unhide HB3⟩

set_option maxRecDepth 100000 in
set_option maxHeartbeats 1600000 in
theorem rl_46 (ad : Option Addr) (m cap : Nat) (a o z : Int) (ha : U64 a) (ho : 0 ≤ o ∧ o < 4294967296) (z0 : 0 ≤ z) (z1 : z < 65536) (w : World) (hLd : LdIs 46 a o ad m cap w z true) :
    Calls Tryz.prog 22 #[.agg #[.int .i64 1, .int .i64 1, .slice ad m cap], .int .u8 46, .int .u64 a, .int .u32 o] w fun e w' => e = .returned (.tuple #[.int .u64 (wsV 2 127 z), .int .i64 0, .bool true]) ∧ Below w.heap.size w w' := by
  have hA : wsV 2 127 z = (if z < 32768 then z else z - 65536) % 4294967296 := rfl
  have hBy : BytesIs 46 2 true true := bytesr_at 46 (by decide)
  have HBy := hide hBy
  obtain ⟨x, hx, hl, hg, hnm⟩ := ld_fam 46 (by omega) (by decide)
  have hSi := signr_at 46 (by omega) (by omega) hnm x hx
  unfold SignIs at hSi
  simp only [hl] at hSi
  have eg : x.g = 127 := by
    have : fam ((46 : Nat) : Int) = some ⟨44, 47, 4, 127, 0, 127⟩ := by rfl
    rw [this] at hx; rw [← Option.some.inj hx]
  rw [eg] at hSi
  have hLd' : ∀ W, Below w.heap.size w W → Calls Tryz.prog 55 #[.agg #[.int .i64 1, .int .i64 1, .slice ad m cap], .int .u64 (a % 4294967296), .int .u64 o, .int .i64 2] W fun e w' => e = .returned (.tuple #[.int .u64 z, .bool true]) ∧ Below W.heap.size W w' := hLd
  have HLd := hide hLd'; have HSi := hide hSi
  obtain ⟨a0, a1⟩ := ha
  obtain ⟨o0, o1⟩ := ho
  have et : a.tmod 4294967296 = a % 4294967296 := Int.tmod_eq_emod_of_nonneg a0
  have hb0 : Below w.heap.size w (w.alloc (.cells #[.int .i64 1, .int .i64 1, .slice ad m cap] 51)) := (Below.refl _ _).alloc (Nat.le_refl _) _
  have r0 := heap_alloc_new w (.cells #[.int .i64 1, .int .i64 1, .slice ad m cap] 51)
  have HB0 := hide hb0; have HR0 := hide r0
  clear hb0 r0
  clear hSi hx hl hnm hg hLd hLd' hBy eg
  by_cases hz : z < 32768
  · rw [if_pos hz, Int.emod_eq_of_lt z0 (by omega)] at hA
    rw [hA]; clear hA
    have tz : (z / 32768 == 1) = false := by simp; omega
    have ez : z.tmod 4294967296 = z := by rw [Int.tmod_eq_emod_of_nonneg z0]; omega
    clear hz
    go_enter Tryz.func22, Tryz.ntmps22
    go_wp2_with fail
    generalize w.alloc (.cells #[.int .i64 1, .int .i64 1, .slice ad m cap] 51) = w0 at *
    refine (unhide HBy _).mono ?_
    rintro e w1 ⟨rfl, hb1⟩
    have HB1 := hide (Below.on (unhide HB0) hb1); have HR1 := hide ((hb1.block _ (Array.getElem?_eq_some_iff.1 (unhide HR0)).1).trans (unhide HR0))
    clear hb1 HB0 HR0
    go_wp2_with fail
    refine (unhide HSi _).mono ?_
    rintro e w2 ⟨v2, rfl, ho2, hb2⟩
    obtain ⟨sa, sc, rfl⟩ := own_slice ho2
    have HB2 := hide (Below.on (unhide HB1) hb2); have HR2 := hide ((hb2.block _ (Array.getElem?_eq_some_iff.1 (unhide HR1)).1).trans (unhide HR1))
    clear hb2 ho2 HB1 HR1
    obtain ⟨q0, q1, q2⟩ := ebox (unhide HR2)
    have lt2 := (Array.getElem?_eq_some_iff.1 (unhide HR2)).1
    go_wp2_with fail
    refine (unhide HLd _ (unhide HB2)).mono ?_
    rintro e w3 ⟨rfl, hb3⟩
    have HB3 := hide (Below.on (unhide HB2) hb3)
    clear hb3 HB2 HR2 q0 q1 q2 lt2
    go_wp2
    go_ret3
    exact ⟨rfl, unhide HB3⟩
  · rw [if_neg hz] at hA
    have tz : (z / 32768 == 1) = true := by simp; omega
    obtain ⟨x, rfl⟩ := Int.eq_ofNat_of_zero_le z0
    have hx1 : x < 65536 := by omega
    have HX := hide hx1; have HA := hide hA
    clear hz hA z0 hx1
    go_enter Tryz.func22, Tryz.ntmps22
    go_wp2_with fail
    generalize w.alloc (.cells #[.int .i64 1, .int .i64 1, .slice ad m cap] 51) = w0 at *
    refine (unhide HBy _).mono ?_
    rintro e w1 ⟨rfl, hb1⟩
    have HB1 := hide (Below.on (unhide HB0) hb1); have HR1 := hide ((hb1.block _ (Array.getElem?_eq_some_iff.1 (unhide HR0)).1).trans (unhide HR0))
    clear hb1 HB0 HR0
    go_wp2_with fail
    refine (unhide HSi _).mono ?_
    rintro e w2 ⟨v2, rfl, ho2, hb2⟩
    obtain ⟨sa, sc, rfl⟩ := own_slice ho2
    have HB2 := hide (Below.on (unhide HB1) hb2); have HR2 := hide ((hb2.block _ (Array.getElem?_eq_some_iff.1 (unhide HR1)).1).trans (unhide HR1))
    clear hb2 ho2 HB1 HR1
    obtain ⟨q0, q1, q2⟩ := ebox (unhide HR2)
    have lt2 := (Array.getElem?_eq_some_iff.1 (unhide HR2)).1
    go_wp2_with fail
    refine (unhide HLd _ (unhide HB2)).mono ?_
    rintro e w3 ⟨rfl, hb3⟩
    have HB3 := hide (Below.on (unhide HB2) hb3)
    clear hb3 HB2 HR2 q0 q1 q2 lt2
    go_wp2_with fail
    go_loopw [17, 19] (fun v i wr => ∃ j : Nat, 16 ≤ j ∧ j ≤ 64 ∧ i = .int .i64 j ∧ v = .int .u64 ((x + (2 ^ j - 65536) : Nat) : Int) ∧ wr = w3)
      (fun _ i _ => (64 - intOf i).toNat)
    case atStart => exact ⟨16, by omega, by omega, rfl, by simp, rfl⟩
    case round =>
      obtain ⟨j, hj0, hj1, rfl, rfl, rfl⟩ := hrel
      by_cases hlt : j < 64
      · have hlt' : (j : Int) < 64 := by omega
        have hj0' : (16 : Int) ≤ j := by omega
        have HJ := hide (And.intro hj0 hlt)
        clear hj0 hj1 hlt
        go_wp2
        go_roundw
        case rel => exact ⟨j + 1, by have := (unhide HJ).1; omega, by have := (unhide HJ).2; omega, by go_num, by rw [or_more x j 16 65536 (by decide) (unhide HJ).1 (unhide HJ).2 (unhide HX)], by first | trivial | rfl⟩
        case measure => simp [intOf]; omega
      · obtain rfl : j = 64 := by omega
        clear hj0 hj1 hlt
        have hx1 := unhide HX
        have ex : ((x + (2 ^ 64 - 65536) : Nat) : Int) = (x : Int) + 18446744073709486080 := by omega
        rw [ex]
        have ez : ((x : Int) + 18446744073709486080).tmod 4294967296 = ((x : Int) + 18446744073709486080) % 4294967296 := Int.tmod_eq_emod_of_nonneg (by omega)
        clear ex hx1
        go_wp2
        go_ret3
        exact ⟨by rw [unhide HA]; exact ret3u (by have := unhide HX; omega), unhide HB3⟩

set_option maxRecDepth 100000 in
set_option maxHeartbeats 1600000 in
theorem rl_48 (ad : Option Addr) (m cap : Nat) (a o z : Int) (ha : U64 a) (ho : 0 ≤ o ∧ o < 4294967296) (z0 : 0 ≤ z) (z1 : z < 256) (w : World) (hLd : LdIs 48 a o ad m cap w z true) :
    Calls Tryz.prog 22 #[.agg #[.int .i64 1, .int .i64 1, .slice ad m cap], .int .u8 48, .int .u64 a, .int .u32 o] w fun e w' => e = .returned (.tuple #[.int .u64 (wsV 1 126 z), .int .i64 0, .bool true]) ∧ Below w.heap.size w w' := by
  have hA : wsV 1 126 z = (if z < 128 then z else z - 256) % 18446744073709551616 := rfl
  have hBy : BytesIs 48 1 true true := bytesr_at 48 (by decide)
  have HBy := hide hBy
  obtain ⟨x, hx, hl, hg, hnm⟩ := ld_fam 48 (by omega) (by decide)
  have hSi := signr_at 48 (by omega) (by omega) hnm x hx
  unfold SignIs at hSi
  simp only [hl] at hSi
  have eg : x.g = 126 := by
    have : fam ((48 : Nat) : Int) = some ⟨48, 53, 4, 127, 0, 126⟩ := by rfl
    rw [this] at hx; rw [← Option.some.inj hx]
  rw [eg] at hSi
  have hLd' : ∀ W, Below w.heap.size w W → Calls Tryz.prog 55 #[.agg #[.int .i64 1, .int .i64 1, .slice ad m cap], .int .u64 (a % 4294967296), .int .u64 o, .int .i64 1] W fun e w' => e = .returned (.tuple #[.int .u64 z, .bool true]) ∧ Below W.heap.size W w' := hLd
  have HLd := hide hLd'; have HSi := hide hSi
  obtain ⟨a0, a1⟩ := ha
  obtain ⟨o0, o1⟩ := ho
  have et : a.tmod 4294967296 = a % 4294967296 := Int.tmod_eq_emod_of_nonneg a0
  have hb0 : Below w.heap.size w (w.alloc (.cells #[.int .i64 1, .int .i64 1, .slice ad m cap] 51)) := (Below.refl _ _).alloc (Nat.le_refl _) _
  have r0 := heap_alloc_new w (.cells #[.int .i64 1, .int .i64 1, .slice ad m cap] 51)
  have HB0 := hide hb0; have HR0 := hide r0
  clear hb0 r0
  clear hSi hx hl hnm hg hLd hLd' hBy eg
  by_cases hz : z < 128
  · rw [if_pos hz, Int.emod_eq_of_lt z0 (by omega)] at hA
    rw [hA]; clear hA
    have tz : (z / 128 == 1) = false := by simp; omega
    have ez : z.tmod 4294967296 = z := by rw [Int.tmod_eq_emod_of_nonneg z0]; omega
    clear hz
    go_enter Tryz.func22, Tryz.ntmps22
    go_wp2_with fail
    generalize w.alloc (.cells #[.int .i64 1, .int .i64 1, .slice ad m cap] 51) = w0 at *
    refine (unhide HBy _).mono ?_
    rintro e w1 ⟨rfl, hb1⟩
    have HB1 := hide (Below.on (unhide HB0) hb1); have HR1 := hide ((hb1.block _ (Array.getElem?_eq_some_iff.1 (unhide HR0)).1).trans (unhide HR0))
    clear hb1 HB0 HR0
    go_wp2_with fail
    refine (unhide HSi _).mono ?_
    rintro e w2 ⟨v2, rfl, ho2, hb2⟩
    obtain ⟨sa, sc, rfl⟩ := own_slice ho2
    have HB2 := hide (Below.on (unhide HB1) hb2); have HR2 := hide ((hb2.block _ (Array.getElem?_eq_some_iff.1 (unhide HR1)).1).trans (unhide HR1))
    clear hb2 ho2 HB1 HR1
    obtain ⟨q0, q1, q2⟩ := ebox (unhide HR2)
    have lt2 := (Array.getElem?_eq_some_iff.1 (unhide HR2)).1
    go_wp2_with fail
    refine (unhide HLd _ (unhide HB2)).mono ?_
    rintro e w3 ⟨rfl, hb3⟩
    have HB3 := hide (Below.on (unhide HB2) hb3)
    clear hb3 HB2 HR2 q0 q1 q2 lt2
    go_wp2
    go_ret3
    exact ⟨rfl, unhide HB3⟩
  · rw [if_neg hz] at hA
    have tz : (z / 128 == 1) = true := by simp; omega
    obtain ⟨x, rfl⟩ := Int.eq_ofNat_of_zero_le z0
    have hx1 : x < 256 := by omega
    have HX := hide hx1; have HA := hide hA
    clear hz hA z0 hx1
    go_enter Tryz.func22, Tryz.ntmps22
    go_wp2_with fail
    generalize w.alloc (.cells #[.int .i64 1, .int .i64 1, .slice ad m cap] 51) = w0 at *
    refine (unhide HBy _).mono ?_
    rintro e w1 ⟨rfl, hb1⟩
    have HB1 := hide (Below.on (unhide HB0) hb1); have HR1 := hide ((hb1.block _ (Array.getElem?_eq_some_iff.1 (unhide HR0)).1).trans (unhide HR0))
    clear hb1 HB0 HR0
    go_wp2_with fail
    refine (unhide HSi _).mono ?_
    rintro e w2 ⟨v2, rfl, ho2, hb2⟩
    obtain ⟨sa, sc, rfl⟩ := own_slice ho2
    have HB2 := hide (Below.on (unhide HB1) hb2); have HR2 := hide ((hb2.block _ (Array.getElem?_eq_some_iff.1 (unhide HR1)).1).trans (unhide HR1))
    clear hb2 ho2 HB1 HR1
    obtain ⟨q0, q1, q2⟩ := ebox (unhide HR2)
    have lt2 := (Array.getElem?_eq_some_iff.1 (unhide HR2)).1
    go_wp2_with fail
    refine (unhide HLd _ (unhide HB2)).mono ?_
    rintro e w3 ⟨rfl, hb3⟩
    have HB3 := hide (Below.on (unhide HB2) hb3)
    clear hb3 HB2 HR2 q0 q1 q2 lt2
    go_wp2_with fail
    go_loopw [17, 19] (fun v i wr => ∃ j : Nat, 8 ≤ j ∧ j ≤ 64 ∧ i = .int .i64 j ∧ v = .int .u64 ((x + (2 ^ j - 256) : Nat) : Int) ∧ wr = w3)
      (fun _ i _ => (64 - intOf i).toNat)
    case atStart => exact ⟨8, by omega, by omega, rfl, by simp, rfl⟩
    case round =>
      obtain ⟨j, hj0, hj1, rfl, rfl, rfl⟩ := hrel
      by_cases hlt : j < 64
      · have hlt' : (j : Int) < 64 := by omega
        have hj0' : (8 : Int) ≤ j := by omega
        have HJ := hide (And.intro hj0 hlt)
        clear hj0 hj1 hlt
        go_wp2
        go_roundw
        case rel => exact ⟨j + 1, by have := (unhide HJ).1; omega, by have := (unhide HJ).2; omega, by go_num, by rw [or_more x j 8 256 (by decide) (unhide HJ).1 (unhide HJ).2 (unhide HX)], by first | trivial | rfl⟩
        case measure => simp [intOf]; omega
      · obtain rfl : j = 64 := by omega
        clear hj0 hj1 hlt
        have hx1 := unhide HX
        have ex : ((x + (2 ^ 64 - 256) : Nat) : Int) = (x : Int) + 18446744073709551360 := by omega
        rw [ex]
        have ez : ((x : Int) + 18446744073709551360).tmod 4294967296 = ((x : Int) + 18446744073709551360) % 4294967296 := Int.tmod_eq_emod_of_nonneg (by omega)
        clear ex hx1
        go_wp2
        go_ret3
        exact ⟨by rw [unhide HA]; exact ret3u (by have := unhide HX; omega), unhide HB3⟩

set_option maxRecDepth 100000 in
set_option maxHeartbeats 1600000 in
theorem rl_50 (ad : Option Addr) (m cap : Nat) (a o z : Int) (ha : U64 a) (ho : 0 ≤ o ∧ o < 4294967296) (z0 : 0 ≤ z) (z1 : z < 65536) (w : World) (hLd : LdIs 50 a o ad m cap w z true) :
    Calls Tryz.prog 22 #[.agg #[.int .i64 1, .int .i64 1, .slice ad m cap], .int .u8 50, .int .u64 a, .int .u32 o] w fun e w' => e = .returned (.tuple #[.int .u64 (wsV 2 126 z), .int .i64 0, .bool true]) ∧ Below w.heap.size w w' := by
  have hA : wsV 2 126 z = (if z < 32768 then z else z - 65536) % 18446744073709551616 := rfl
  have hBy : BytesIs 50 2 true true := bytesr_at 50 (by decide)
  have HBy := hide hBy
  obtain ⟨x, hx, hl, hg, hnm⟩ := ld_fam 50 (by omega) (by decide)
  have hSi := signr_at 50 (by omega) (by omega) hnm x hx
  unfold SignIs at hSi
  simp only [hl] at hSi
  have eg : x.g = 126 := by
    have : fam ((50 : Nat) : Int) = some ⟨48, 53, 4, 127, 0, 126⟩ := by rfl
    rw [this] at hx; rw [← Option.some.inj hx]
  rw [eg] at hSi
  have hLd' : ∀ W, Below w.heap.size w W → Calls Tryz.prog 55 #[.agg #[.int .i64 1, .int .i64 1, .slice ad m cap], .int .u64 (a % 4294967296), .int .u64 o, .int .i64 2] W fun e w' => e = .returned (.tuple #[.int .u64 z, .bool true]) ∧ Below W.heap.size W w' := hLd
  have HLd := hide hLd'; have HSi := hide hSi
  obtain ⟨a0, a1⟩ := ha
  obtain ⟨o0, o1⟩ := ho
  have et : a.tmod 4294967296 = a % 4294967296 := Int.tmod_eq_emod_of_nonneg a0
  have hb0 : Below w.heap.size w (w.alloc (.cells #[.int .i64 1, .int .i64 1, .slice ad m cap] 51)) := (Below.refl _ _).alloc (Nat.le_refl _) _
  have r0 := heap_alloc_new w (.cells #[.int .i64 1, .int .i64 1, .slice ad m cap] 51)
  have HB0 := hide hb0; have HR0 := hide r0
  clear hb0 r0
  clear hSi hx hl hnm hg hLd hLd' hBy eg
  by_cases hz : z < 32768
  · rw [if_pos hz, Int.emod_eq_of_lt z0 (by omega)] at hA
    rw [hA]; clear hA
    have tz : (z / 32768 == 1) = false := by simp; omega
    have ez : z.tmod 4294967296 = z := by rw [Int.tmod_eq_emod_of_nonneg z0]; omega
    clear hz
    go_enter Tryz.func22, Tryz.ntmps22
    go_wp2_with fail
    generalize w.alloc (.cells #[.int .i64 1, .int .i64 1, .slice ad m cap] 51) = w0 at *
    refine (unhide HBy _).mono ?_
    rintro e w1 ⟨rfl, hb1⟩
    have HB1 := hide (Below.on (unhide HB0) hb1); have HR1 := hide ((hb1.block _ (Array.getElem?_eq_some_iff.1 (unhide HR0)).1).trans (unhide HR0))
    clear hb1 HB0 HR0
    go_wp2_with fail
    refine (unhide HSi _).mono ?_
    rintro e w2 ⟨v2, rfl, ho2, hb2⟩
    obtain ⟨sa, sc, rfl⟩ := own_slice ho2
    have HB2 := hide (Below.on (unhide HB1) hb2); have HR2 := hide ((hb2.block _ (Array.getElem?_eq_some_iff.1 (unhide HR1)).1).trans (unhide HR1))
    clear hb2 ho2 HB1 HR1
    obtain ⟨q0, q1, q2⟩ := ebox (unhide HR2)
    have lt2 := (Array.getElem?_eq_some_iff.1 (unhide HR2)).1
    go_wp2_with fail
    refine (unhide HLd _ (unhide HB2)).mono ?_
    rintro e w3 ⟨rfl, hb3⟩
    have HB3 := hide (Below.on (unhide HB2) hb3)
    clear hb3 HB2 HR2 q0 q1 q2 lt2
    go_wp2
    go_ret3
    exact ⟨rfl, unhide HB3⟩
  · rw [if_neg hz] at hA
    have tz : (z / 32768 == 1) = true := by simp; omega
    obtain ⟨x, rfl⟩ := Int.eq_ofNat_of_zero_le z0
    have hx1 : x < 65536 := by omega
    have HX := hide hx1; have HA := hide hA
    clear hz hA z0 hx1
    go_enter Tryz.func22, Tryz.ntmps22
    go_wp2_with fail
    generalize w.alloc (.cells #[.int .i64 1, .int .i64 1, .slice ad m cap] 51) = w0 at *
    refine (unhide HBy _).mono ?_
    rintro e w1 ⟨rfl, hb1⟩
    have HB1 := hide (Below.on (unhide HB0) hb1); have HR1 := hide ((hb1.block _ (Array.getElem?_eq_some_iff.1 (unhide HR0)).1).trans (unhide HR0))
    clear hb1 HB0 HR0
    go_wp2_with fail
    refine (unhide HSi _).mono ?_
    rintro e w2 ⟨v2, rfl, ho2, hb2⟩
    obtain ⟨sa, sc, rfl⟩ := own_slice ho2
    have HB2 := hide (Below.on (unhide HB1) hb2); have HR2 := hide ((hb2.block _ (Array.getElem?_eq_some_iff.1 (unhide HR1)).1).trans (unhide HR1))
    clear hb2 ho2 HB1 HR1
    obtain ⟨q0, q1, q2⟩ := ebox (unhide HR2)
    have lt2 := (Array.getElem?_eq_some_iff.1 (unhide HR2)).1
    go_wp2_with fail
    refine (unhide HLd _ (unhide HB2)).mono ?_
    rintro e w3 ⟨rfl, hb3⟩
    have HB3 := hide (Below.on (unhide HB2) hb3)
    clear hb3 HB2 HR2 q0 q1 q2 lt2
    go_wp2_with fail
    go_loopw [17, 19] (fun v i wr => ∃ j : Nat, 16 ≤ j ∧ j ≤ 64 ∧ i = .int .i64 j ∧ v = .int .u64 ((x + (2 ^ j - 65536) : Nat) : Int) ∧ wr = w3)
      (fun _ i _ => (64 - intOf i).toNat)
    case atStart => exact ⟨16, by omega, by omega, rfl, by simp, rfl⟩
    case round =>
      obtain ⟨j, hj0, hj1, rfl, rfl, rfl⟩ := hrel
      by_cases hlt : j < 64
      · have hlt' : (j : Int) < 64 := by omega
        have hj0' : (16 : Int) ≤ j := by omega
        have HJ := hide (And.intro hj0 hlt)
        clear hj0 hj1 hlt
        go_wp2
        go_roundw
        case rel => exact ⟨j + 1, by have := (unhide HJ).1; omega, by have := (unhide HJ).2; omega, by go_num, by rw [or_more x j 16 65536 (by decide) (unhide HJ).1 (unhide HJ).2 (unhide HX)], by first | trivial | rfl⟩
        case measure => simp [intOf]; omega
      · obtain rfl : j = 64 := by omega
        clear hj0 hj1 hlt
        have hx1 := unhide HX
        have ex : ((x + (2 ^ 64 - 65536) : Nat) : Int) = (x : Int) + 18446744073709486080 := by omega
        rw [ex]
        have ez : ((x : Int) + 18446744073709486080).tmod 4294967296 = ((x : Int) + 18446744073709486080) % 4294967296 := Int.tmod_eq_emod_of_nonneg (by omega)
        clear ex hx1
        go_wp2
        go_ret3
        exact ⟨by rw [unhide HA]; exact ret3u (by have := unhide HX; omega), unhide HB3⟩

set_option maxRecDepth 100000 in
set_option maxHeartbeats 1600000 in
theorem rl_52 (ad : Option Addr) (m cap : Nat) (a o z : Int) (ha : U64 a) (ho : 0 ≤ o ∧ o < 4294967296) (z0 : 0 ≤ z) (z1 : z < 4294967296) (w : World) (hLd : LdIs 52 a o ad m cap w z true) :
    Calls Tryz.prog 22 #[.agg #[.int .i64 1, .int .i64 1, .slice ad m cap], .int .u8 52, .int .u64 a, .int .u32 o] w fun e w' => e = .returned (.tuple #[.int .u64 (wsV 4 126 z), .int .i64 0, .bool true]) ∧ Below w.heap.size w w' := by
  have hA : wsV 4 126 z = (if z < 2147483648 then z else z - 4294967296) % 18446744073709551616 := rfl
  have hBy : BytesIs 52 4 true true := bytesr_at 52 (by decide)
  have HBy := hide hBy
  obtain ⟨x, hx, hl, hg, hnm⟩ := ld_fam 52 (by omega) (by decide)
  have hSi := signr_at 52 (by omega) (by omega) hnm x hx
  unfold SignIs at hSi
  simp only [hl] at hSi
  have eg : x.g = 126 := by
    have : fam ((52 : Nat) : Int) = some ⟨48, 53, 4, 127, 0, 126⟩ := by rfl
    rw [this] at hx; rw [← Option.some.inj hx]
  rw [eg] at hSi
  have hLd' : ∀ W, Below w.heap.size w W → Calls Tryz.prog 55 #[.agg #[.int .i64 1, .int .i64 1, .slice ad m cap], .int .u64 (a % 4294967296), .int .u64 o, .int .i64 4] W fun e w' => e = .returned (.tuple #[.int .u64 z, .bool true]) ∧ Below W.heap.size W w' := hLd
  have HLd := hide hLd'; have HSi := hide hSi
  obtain ⟨a0, a1⟩ := ha
  obtain ⟨o0, o1⟩ := ho
  have et : a.tmod 4294967296 = a % 4294967296 := Int.tmod_eq_emod_of_nonneg a0
  have hb0 : Below w.heap.size w (w.alloc (.cells #[.int .i64 1, .int .i64 1, .slice ad m cap] 51)) := (Below.refl _ _).alloc (Nat.le_refl _) _
  have r0 := heap_alloc_new w (.cells #[.int .i64 1, .int .i64 1, .slice ad m cap] 51)
  have HB0 := hide hb0; have HR0 := hide r0
  clear hb0 r0
  clear hSi hx hl hnm hg hLd hLd' hBy eg
  by_cases hz : z < 2147483648
  · rw [if_pos hz, Int.emod_eq_of_lt z0 (by omega)] at hA
    rw [hA]; clear hA
    have tz : (z / 2147483648 == 1) = false := by simp; omega
    have ez : z.tmod 4294967296 = z := by rw [Int.tmod_eq_emod_of_nonneg z0]; omega
    clear hz
    go_enter Tryz.func22, Tryz.ntmps22
    go_wp2_with fail
    generalize w.alloc (.cells #[.int .i64 1, .int .i64 1, .slice ad m cap] 51) = w0 at *
    refine (unhide HBy _).mono ?_
    rintro e w1 ⟨rfl, hb1⟩
    have HB1 := hide (Below.on (unhide HB0) hb1); have HR1 := hide ((hb1.block _ (Array.getElem?_eq_some_iff.1 (unhide HR0)).1).trans (unhide HR0))
    clear hb1 HB0 HR0
    go_wp2_with fail
    refine (unhide HSi _).mono ?_
    rintro e w2 ⟨v2, rfl, ho2, hb2⟩
    obtain ⟨sa, sc, rfl⟩ := own_slice ho2
    have HB2 := hide (Below.on (unhide HB1) hb2); have HR2 := hide ((hb2.block _ (Array.getElem?_eq_some_iff.1 (unhide HR1)).1).trans (unhide HR1))
    clear hb2 ho2 HB1 HR1
    obtain ⟨q0, q1, q2⟩ := ebox (unhide HR2)
    have lt2 := (Array.getElem?_eq_some_iff.1 (unhide HR2)).1
    go_wp2_with fail
    refine (unhide HLd _ (unhide HB2)).mono ?_
    rintro e w3 ⟨rfl, hb3⟩
    have HB3 := hide (Below.on (unhide HB2) hb3)
    clear hb3 HB2 HR2 q0 q1 q2 lt2
    go_wp2
    go_ret3
    exact ⟨rfl, unhide HB3⟩
  · rw [if_neg hz] at hA
    have tz : (z / 2147483648 == 1) = true := by simp; omega
    obtain ⟨x, rfl⟩ := Int.eq_ofNat_of_zero_le z0
    have hx1 : x < 4294967296 := by omega
    have HX := hide hx1; have HA := hide hA
    clear hz hA z0 hx1
    go_enter Tryz.func22, Tryz.ntmps22
    go_wp2_with fail
    generalize w.alloc (.cells #[.int .i64 1, .int .i64 1, .slice ad m cap] 51) = w0 at *
    refine (unhide HBy _).mono ?_
    rintro e w1 ⟨rfl, hb1⟩
    have HB1 := hide (Below.on (unhide HB0) hb1); have HR1 := hide ((hb1.block _ (Array.getElem?_eq_some_iff.1 (unhide HR0)).1).trans (unhide HR0))
    clear hb1 HB0 HR0
    go_wp2_with fail
    refine (unhide HSi _).mono ?_
    rintro e w2 ⟨v2, rfl, ho2, hb2⟩
    obtain ⟨sa, sc, rfl⟩ := own_slice ho2
    have HB2 := hide (Below.on (unhide HB1) hb2); have HR2 := hide ((hb2.block _ (Array.getElem?_eq_some_iff.1 (unhide HR1)).1).trans (unhide HR1))
    clear hb2 ho2 HB1 HR1
    obtain ⟨q0, q1, q2⟩ := ebox (unhide HR2)
    have lt2 := (Array.getElem?_eq_some_iff.1 (unhide HR2)).1
    go_wp2_with fail
    refine (unhide HLd _ (unhide HB2)).mono ?_
    rintro e w3 ⟨rfl, hb3⟩
    have HB3 := hide (Below.on (unhide HB2) hb3)
    clear hb3 HB2 HR2 q0 q1 q2 lt2
    go_wp2_with fail
    go_loopw [17, 19] (fun v i wr => ∃ j : Nat, 32 ≤ j ∧ j ≤ 64 ∧ i = .int .i64 j ∧ v = .int .u64 ((x + (2 ^ j - 4294967296) : Nat) : Int) ∧ wr = w3)
      (fun _ i _ => (64 - intOf i).toNat)
    case atStart => exact ⟨32, by omega, by omega, rfl, by simp, rfl⟩
    case round =>
      obtain ⟨j, hj0, hj1, rfl, rfl, rfl⟩ := hrel
      by_cases hlt : j < 64
      · have hlt' : (j : Int) < 64 := by omega
        have hj0' : (32 : Int) ≤ j := by omega
        have HJ := hide (And.intro hj0 hlt)
        clear hj0 hj1 hlt
        go_wp2
        go_roundw
        case rel => exact ⟨j + 1, by have := (unhide HJ).1; omega, by have := (unhide HJ).2; omega, by go_num, by rw [or_more x j 32 4294967296 (by decide) (unhide HJ).1 (unhide HJ).2 (unhide HX)], by first | trivial | rfl⟩
        case measure => simp [intOf]; omega
      · obtain rfl : j = 64 := by omega
        clear hj0 hj1 hlt
        have hx1 := unhide HX
        have ex : ((x + (2 ^ 64 - 4294967296) : Nat) : Int) = (x : Int) + 18446744069414584320 := by omega
        rw [ex]
        have ez : ((x : Int) + 18446744069414584320).tmod 4294967296 = ((x : Int) + 18446744069414584320) % 4294967296 := Int.tmod_eq_emod_of_nonneg (by omega)
        clear ex hx1
        go_wp2
        go_ret3
        exact ⟨by rw [unhide HA]; exact ret3u (by have := unhide HX; omega), unhide HB3⟩

theorem rl_yes (n : Nat) (hn : n < 54) (h0 : ab n ≠ 0) (ad : Option Addr) (m cap : Nat) (a o z : Int) (ha : U64 a) (ho : 0 ≤ o ∧ o < 4294967296) (z0 : 0 ≤ z) (z1 : z < 256 ^ (ab n).toNat) (w : World) (hLd : LdIs n a o ad m cap w z true) :
    Calls Tryz.prog 22 #[.agg #[.int .i64 1, .int .i64 1, .slice ad m cap], .int .u8 n, .int .u64 a, .int .u32 o] w fun e w' => e = .returned (.tuple #[.int .u64 (ldW n z), .int .i64 0, .bool true]) ∧ Below w.heap.size w w' := by
  cases hs : sfx (nm n)
  · exact rl_plain n hn h0 hs ad m cap a o z ha ho z0 z1 w hLd
  · rcases sfx_mem n hn hs with rfl | rfl | rfl | rfl | rfl
    · exact rl_44 ad m cap a o z ha ho z0 z1 w hLd
    · exact rl_46 ad m cap a o z ha ho z0 z1 w hLd
    · exact rl_48 ad m cap a o z ha ho z0 z1 w hLd
    · exact rl_50 ad m cap a o z ha ho z0 z1 w hLd
    · exact rl_52 ad m cap a o z ha ho z0 z1 w hLd
end Go.Proofs.YtcljcnaglkbjcaaGreatDoor

/- The document's Store (chapter 9). -/
namespace Go.Proofs.YtcljcnaglkbjcaaGreatDoor
open Go.RowKit Go.Maps Go.Shelf Mm
set_option linter.unusedVariables false

set_option maxRecDepth 100000 in
set_option maxHeartbeats 1600000 in
theorem rs_no0 (n : Nat) (hn : n < 256) (h0 : ab n = 0) (ad : Option Addr) (m cap : Nat) (a o v : Int) (w : World) :
    Calls Tryz.prog 23 #[.agg #[.int .i64 1, .int .i64 1, .slice ad m cap], .int .u8 n, .int .u64 a, .int .u32 o, .int .u64 v] w fun e w' => e = .returned (.tuple #[.agg #[.int .i64 1, .int .i64 1, .slice ad m cap], .int .i64 0, .bool false]) ∧ Below w.heap.size w w' := by
  have HBy := hide (bytesr_no n hn h0)
  obtain ⟨zs, r, b, hSi⟩ := signr_ex n hn
  have HSi := hide hSi
  obtain ⟨W, hW⟩ : ∃ W, (w.alloc (.cells #[.int .i64 1, .int .i64 1, .slice ad m cap] 51)).alloc (.cells #[.int .i64 0, .int .i64 0, .slice none 0 0] 51) = W := ⟨_, rfl⟩
  have hW1 : Below w.heap.size w W := by rw [← hW]; exact ((Below.refl _ _).alloc (Nat.le_refl _) _).alloc (by simp) _
  have hWs : W.heap.size = w.heap.size + 2 := by rw [← hW]; simp
  have hW0 : W.heap[w.heap.size]? = some (.cells #[.int .i64 1, .int .i64 1, .slice ad m cap] 51 (0, 0)) := by
    rw [← hW, Below.heap_alloc _ _ _ (by simp)]; exact heap_alloc_new _ _
  have hW2 : W.heap[w.heap.size + 1]? = some (.cells #[.int .i64 0, .int .i64 0, .slice none 0 0] 51 (0, 0)) := by
    rw [← hW]; have := heap_alloc_new (w.alloc (.cells #[.int .i64 1, .int .i64 1, .slice ad m cap] 51)) (.cells #[.int .i64 0, .int .i64 0, .slice none 0 0] 51); simpa using this
  have HW := hide hW; have HB0 := hide hW1; have HR0 := hide hW0; have HZ0 := hide hW2
  clear hW hW1 hWs hW0 hW2
  clear h0 hn hSi
  go_enter Tryz.func23, Tryz.ntmps23
  go_wp2_with fail
  rw [unhide HW]
  refine (unhide HBy _).mono ?_
  rintro e w1 ⟨rfl, hb1⟩
  have HB1 := hide (Below.on (unhide HB0) hb1); have HR1 := hide ((hb1.block _ (Array.getElem?_eq_some_iff.1 (unhide HR0)).1).trans (unhide HR0)); have HZ1 := hide ((hb1.block _ (Array.getElem?_eq_some_iff.1 (unhide HZ0)).1).trans (unhide HZ0))
  clear hb1 HB0 HR0 HZ0 HW
  go_wp2_with fail
  refine (unhide HSi _).mono ?_
  rintro e w2 ⟨v2, rfl, ho2, hb2⟩
  obtain ⟨sa, sc, rfl⟩ := own_slice ho2
  have HB2 := hide (Below.on (unhide HB1) hb2); have HR2 := hide ((hb2.block _ (Array.getElem?_eq_some_iff.1 (unhide HR1)).1).trans (unhide HR1)); have HZ2 := hide ((hb2.block _ (Array.getElem?_eq_some_iff.1 (unhide HZ1)).1).trans (unhide HZ1))
  clear hb2 ho2 HB1 HR1 HZ1
  obtain ⟨q0, q1, q2⟩ := ebox (unhide HR2)
  obtain ⟨r0, r1, r2⟩ := ebox (unhide HZ2)
  have g0 := frozen_of_row w2 (w.heap.size + 1) 0 _ _ (unhide HZ2)
  have g1 := frozen_of_row w2 (w.heap.size + 1) 1 _ _ (unhide HZ2)
  have g2 := frozen_of_row w2 (w.heap.size + 1) 2 _ _ (unhide HZ2)
  have lt2 := (Array.getElem?_eq_some_iff.1 (unhide HZ2)).1
  have n0 : ¬ w.heap.size = w2.heap.size := by omega
  have lt0 : w.heap.size < w2.heap.size := by omega
  have n1 : ¬ w.heap.size + 1 = w2.heap.size := by omega
  obtain ⟨k1, k2, k3⟩ := box3 (unhide HZ2) (.int .i64 1) (.int .i64 1) (.slice ad m cap)
  have KB := hide (grown_below (unhide HB2) k2 (by omega) (by omega))
  clear k1 k2 k3 HR2 HZ2 HB2
  go_wp2
  exact bodyPost_ret (v := .tuple #[.agg #[.int .i64 1, .int .i64 1, .slice ad m cap], .int .i64 0, .bool false]) (by simp [results, Tryz.results23, go_sem, r0, r1, r2]) rfl ⟨rfl, unhide KB⟩

set_option maxRecDepth 100000 in
set_option maxHeartbeats 1600000 in
theorem rs_no1 (n : Nat) (hn : n < 54) (h0 : ab n ≠ 0) (ad : Option Addr) (m cap : Nat) (a o v : Int) (w : World) :
    Calls Tryz.prog 23 #[.agg #[.int .i64 1, .int .i64 1, .slice ad m cap], .int .u8 n, .int .u64 a, .int .u32 o, .int .u64 v] w fun e w' => e = .returned (.tuple #[.agg #[.int .i64 1, .int .i64 1, .slice ad m cap], .int .i64 0, .bool false]) ∧ Below w.heap.size w w' := by
  have HBy := hide (bytesr_at n h0)
  obtain ⟨x, hx, hl, hg, hnm⟩ := ld_fam n hn h0
  have hSi := signr_at n (by omega) (gt36 n h0) hnm x hx
  unfold SignIs at hSi
  simp only [hl] at hSi
  have HSi := hide hSi
  obtain ⟨W, hW⟩ : ∃ W, (w.alloc (.cells #[.int .i64 1, .int .i64 1, .slice ad m cap] 51)).alloc (.cells #[.int .i64 0, .int .i64 0, .slice none 0 0] 51) = W := ⟨_, rfl⟩
  have hW1 : Below w.heap.size w W := by rw [← hW]; exact ((Below.refl _ _).alloc (Nat.le_refl _) _).alloc (by simp) _
  have hWs : W.heap.size = w.heap.size + 2 := by rw [← hW]; simp
  have hW0 : W.heap[w.heap.size]? = some (.cells #[.int .i64 1, .int .i64 1, .slice ad m cap] 51 (0, 0)) := by
    rw [← hW, Below.heap_alloc _ _ _ (by simp)]; exact heap_alloc_new _ _
  have hW2 : W.heap[w.heap.size + 1]? = some (.cells #[.int .i64 0, .int .i64 0, .slice none 0 0] 51 (0, 0)) := by
    rw [← hW]; have := heap_alloc_new (w.alloc (.cells #[.int .i64 1, .int .i64 1, .slice ad m cap] 51)) (.cells #[.int .i64 0, .int .i64 0, .slice none 0 0] 51); simpa using this
  have HW := hide hW; have HB0 := hide hW1; have HR0 := hide hW0; have HZ0 := hide hW2
  clear hW hW1 hWs hW0 hW2
  clear h0 hn hSi hx hl hnm hg
  generalize ab n = s at *
  generalize sfx (nm n) = sx at *
  go_enter Tryz.func23, Tryz.ntmps23
  go_wp2_with fail
  rw [unhide HW]
  refine (unhide HBy _).mono ?_
  rintro e w1 ⟨rfl, hb1⟩
  have HB1 := hide (Below.on (unhide HB0) hb1); have HR1 := hide ((hb1.block _ (Array.getElem?_eq_some_iff.1 (unhide HR0)).1).trans (unhide HR0)); have HZ1 := hide ((hb1.block _ (Array.getElem?_eq_some_iff.1 (unhide HZ0)).1).trans (unhide HZ0))
  clear hb1 HB0 HR0 HZ0 HW
  go_wp2_with fail
  refine (unhide HSi _).mono ?_
  rintro e w2 ⟨v2, rfl, ho2, hb2⟩
  obtain ⟨sa, sc, rfl⟩ := own_slice ho2
  have HB2 := hide (Below.on (unhide HB1) hb2); have HR2 := hide ((hb2.block _ (Array.getElem?_eq_some_iff.1 (unhide HR1)).1).trans (unhide HR1)); have HZ2 := hide ((hb2.block _ (Array.getElem?_eq_some_iff.1 (unhide HZ1)).1).trans (unhide HZ1))
  clear hb2 ho2 HB1 HR1 HZ1
  obtain ⟨q0, q1, q2⟩ := ebox (unhide HR2)
  obtain ⟨r0, r1, r2⟩ := ebox (unhide HZ2)
  have g0 := frozen_of_row w2 (w.heap.size + 1) 0 _ _ (unhide HZ2)
  have g1 := frozen_of_row w2 (w.heap.size + 1) 1 _ _ (unhide HZ2)
  have g2 := frozen_of_row w2 (w.heap.size + 1) 2 _ _ (unhide HZ2)
  have lt2 := (Array.getElem?_eq_some_iff.1 (unhide HZ2)).1
  have n0 : ¬ w.heap.size = w2.heap.size := by omega
  have lt0 : w.heap.size < w2.heap.size := by omega
  have n1 : ¬ w.heap.size + 1 = w2.heap.size := by omega
  obtain ⟨k1, k2, k3⟩ := box3 (unhide HZ2) (.int .i64 1) (.int .i64 1) (.slice ad m cap)
  have KB := hide (grown_below (unhide HB2) k2 (by omega) (by omega))
  clear k1 k2 k3 HR2 HZ2 HB2
  go_wp2
  exact bodyPost_ret (v := .tuple #[.agg #[.int .i64 1, .int .i64 1, .slice ad m cap], .int .i64 0, .bool false]) (by simp [results, Tryz.results23, go_sem, r0, r1, r2]) rfl ⟨rfl, unhide KB⟩

set_option maxRecDepth 100000 in
set_option maxHeartbeats 1600000 in
theorem rs_far (n : Nat) (hn : 54 ≤ n) (h0 : ab n ≠ 0) (ad : Option Addr) (m cap : Nat) (a o v : Int) (ha : U64 a) (ho : 0 ≤ o ∧ o < 4294967296) (w : World)
    (hSt : ∀ W, Below w.heap.size w W → Calls Tryz.prog 46 #[.agg #[.int .i64 1, .int .i64 1, .slice ad m cap], .int .u64 (a % 4294967296), .int .u64 o, .int .i64 (ab n), .int .u64 v] W fun e w' => e = .returned (.tuple #[.agg #[.int .i64 1, .int .i64 1, .slice ad m cap], .bool false]) ∧ Below W.heap.size W w') :
    Calls Tryz.prog 23 #[.agg #[.int .i64 1, .int .i64 1, .slice ad m cap], .int .u8 n, .int .u64 a, .int .u32 o, .int .u64 v] w fun e w' => e = .returned (.tuple #[.agg #[.int .i64 1, .int .i64 1, .slice ad m cap], .int .i64 4, .bool true]) ∧ Below w.heap.size w w' := by
  have HBy := hide (bytesr_at n h0)
  obtain ⟨x, hx, hl, hnm⟩ := st_fam n hn h0
  have hSi := signr_at n (by have := ab_lt n h0; omega) (gt36 n h0) hnm x hx
  unfold SignIs at hSi
  simp only [hl] at hSi
  have HSi := hide hSi; have HSt := hide hSt
  obtain ⟨a0, a1⟩ := ha
  obtain ⟨o0, o1⟩ := ho
  have et : a.tmod 4294967296 = a % 4294967296 := Int.tmod_eq_emod_of_nonneg a0
  obtain ⟨W, hW⟩ : ∃ W, (w.alloc (.cells #[.int .i64 1, .int .i64 1, .slice ad m cap] 51)).alloc (.cells #[.int .i64 0, .int .i64 0, .slice none 0 0] 51) = W := ⟨_, rfl⟩
  have hW1 : Below w.heap.size w W := by rw [← hW]; exact ((Below.refl _ _).alloc (Nat.le_refl _) _).alloc (by simp) _
  have hWs : W.heap.size = w.heap.size + 2 := by rw [← hW]; simp
  have hW0 : W.heap[w.heap.size]? = some (.cells #[.int .i64 1, .int .i64 1, .slice ad m cap] 51 (0, 0)) := by
    rw [← hW, Below.heap_alloc _ _ _ (by simp)]; exact heap_alloc_new _ _
  have hW2 : W.heap[w.heap.size + 1]? = some (.cells #[.int .i64 0, .int .i64 0, .slice none 0 0] 51 (0, 0)) := by
    rw [← hW]; have := heap_alloc_new (w.alloc (.cells #[.int .i64 1, .int .i64 1, .slice ad m cap] 51)) (.cells #[.int .i64 0, .int .i64 0, .slice none 0 0] 51); simpa using this
  have HW := hide hW; have HB0 := hide hW1; have HR0 := hide hW0; have HZ0 := hide hW2
  clear hW hW1 hWs hW0 hW2
  clear h0 hn hSi hx hl hnm hSt
  generalize ab n = s at *
  generalize sfx (nm n) = sx at *
  go_enter Tryz.func23, Tryz.ntmps23
  go_wp2_with fail
  rw [unhide HW]
  refine (unhide HBy _).mono ?_
  rintro e w1 ⟨rfl, hb1⟩
  have HB1 := hide (Below.on (unhide HB0) hb1); have HR1 := hide ((hb1.block _ (Array.getElem?_eq_some_iff.1 (unhide HR0)).1).trans (unhide HR0)); have HZ1 := hide ((hb1.block _ (Array.getElem?_eq_some_iff.1 (unhide HZ0)).1).trans (unhide HZ0))
  clear hb1 HB0 HR0 HZ0 HW
  go_wp2_with fail
  refine (unhide HSi _).mono ?_
  rintro e w2 ⟨v2, rfl, ho2, hb2⟩
  obtain ⟨sa, sc, rfl⟩ := own_slice ho2
  have HB2 := hide (Below.on (unhide HB1) hb2); have HR2 := hide ((hb2.block _ (Array.getElem?_eq_some_iff.1 (unhide HR1)).1).trans (unhide HR1)); have HZ2 := hide ((hb2.block _ (Array.getElem?_eq_some_iff.1 (unhide HZ1)).1).trans (unhide HZ1))
  clear hb2 ho2 HB1 HR1 HZ1
  obtain ⟨q0, q1, q2⟩ := ebox (unhide HR2)
  have lt2 := (Array.getElem?_eq_some_iff.1 (unhide HR2)).1
  go_wp2_with fail
  refine (unhide HSt _ (unhide HB2)).mono ?_
  rintro e w3 ⟨rfl, hb3⟩
  have HB3 := hide (Below.on (unhide HB2) hb3); have HR3 := hide ((hb3.block _ (Array.getElem?_eq_some_iff.1 (unhide HR2)).1).trans (unhide HR2)); have HZ3 := hide ((hb3.block _ (Array.getElem?_eq_some_iff.1 (unhide HZ2)).1).trans (unhide HZ2))
  clear hb3 HB2 HR2 HZ2 q0 q1 q2 lt2
  obtain ⟨q0, q1, q2⟩ := ebox (unhide HR3)
  obtain ⟨r0, r1, r2⟩ := ebox (unhide HZ3)
  have g0 := frozen_of_row w3 (w.heap.size + 1) 0 _ _ (unhide HZ3)
  have g1 := frozen_of_row w3 (w.heap.size + 1) 1 _ _ (unhide HZ3)
  have g2 := frozen_of_row w3 (w.heap.size + 1) 2 _ _ (unhide HZ3)
  have lt2 := (Array.getElem?_eq_some_iff.1 (unhide HZ3)).1
  have n0 : ¬ w.heap.size = w3.heap.size := by omega
  have lt0 : w.heap.size < w3.heap.size := by omega
  have n1 : ¬ w.heap.size + 1 = w3.heap.size := by omega
  obtain ⟨k1, k2, k3⟩ := box3 (unhide HZ3) (.int .i64 1) (.int .i64 1) (.slice ad m cap)
  have KB := hide ((grown_below (unhide HB3) k2 (by omega) (by omega)).alloc (Nat.le_trans (by omega) (Nat.le_of_eq k3.symm)) (.cells #[.int .i64 1, .int .i64 1, .slice ad m cap] 51))
  have KR := hide ((Below.heap_alloc (((w3.setCell ⟨w.heap.size + 1, 0, none⟩ (.int .i64 1)).setCell ⟨w.heap.size + 1, 1, none⟩ (.int .i64 1)).setCell ⟨w.heap.size + 1, 2, none⟩ (.slice ad m cap)) (.cells #[.int .i64 1, .int .i64 1, .slice ad m cap] 51) (w.heap.size + 1) (by rw [k3]; omega)).trans k1)
  clear k1 k2 k3 HR3 HZ3 HB3
  go_wp2
  obtain ⟨d0, d1, d2⟩ := ebox (unhide KR)
  generalize (((w3.setCell ⟨w.heap.size + 1, 0, none⟩ (.int .i64 1)).setCell ⟨w.heap.size + 1, 1, none⟩ (.int .i64 1)).setCell ⟨w.heap.size + 1, 2, none⟩ (.slice ad m cap)).alloc (.cells #[.int .i64 1, .int .i64 1, .slice ad m cap] 51) = W5 at *
  refine bodyPost_ret (v := .tuple #[.agg #[.int .i64 1, .int .i64 1, .slice ad m cap], .int .i64 4, .bool true]) (by simp [results, Tryz.results23, go_sem, d0, d1, d2]) rfl ⟨rfl, unhide KB⟩

set_option maxRecDepth 100000 in
set_option maxHeartbeats 1600000 in
theorem rs_yes (n : Nat) (hn : 54 ≤ n) (h0 : ab n ≠ 0) (ad : Option Addr) (m cap B : Nat) (L : List (Int × Int)) (a o v : Int) (ha : U64 a) (ho : 0 ≤ o ∧ o < 4294967296) (w : World)
    (hSt : ∀ W, Below w.heap.size w W → Calls Tryz.prog 46 #[.agg #[.int .i64 1, .int .i64 1, .slice ad m cap], .int .u64 (a % 4294967296), .int .u64 o, .int .i64 (ab n), .int .u64 v] W fun e w' => ∃ ad' m' cap', e = .returned (.tuple #[.agg #[.int .i64 1, .int .i64 1, .slice ad' m' cap'], .bool true]) ∧ LRow w' B (.slice ad' m' cap') L ∧ Below W.heap.size W w') :
    Calls Tryz.prog 23 #[.agg #[.int .i64 1, .int .i64 1, .slice ad m cap], .int .u8 n, .int .u64 a, .int .u32 o, .int .u64 v] w fun e w' => ∃ ad' m' cap', e = .returned (.tuple #[.agg #[.int .i64 1, .int .i64 1, .slice ad' m' cap'], .int .i64 0, .bool true]) ∧ LRow w' B (.slice ad' m' cap') L ∧ Below w.heap.size w w' := by
  have HBy := hide (bytesr_at n h0)
  obtain ⟨x, hx, hl, hnm⟩ := st_fam n hn h0
  have hSi := signr_at n (by have := ab_lt n h0; omega) (gt36 n h0) hnm x hx
  unfold SignIs at hSi
  simp only [hl] at hSi
  have HSi := hide hSi; have HSt := hide hSt
  obtain ⟨a0, a1⟩ := ha
  obtain ⟨o0, o1⟩ := ho
  have et : a.tmod 4294967296 = a % 4294967296 := Int.tmod_eq_emod_of_nonneg a0
  obtain ⟨W, hW⟩ : ∃ W, (w.alloc (.cells #[.int .i64 1, .int .i64 1, .slice ad m cap] 51)).alloc (.cells #[.int .i64 0, .int .i64 0, .slice none 0 0] 51) = W := ⟨_, rfl⟩
  have hW1 : Below w.heap.size w W := by rw [← hW]; exact ((Below.refl _ _).alloc (Nat.le_refl _) _).alloc (by simp) _
  have hWs : W.heap.size = w.heap.size + 2 := by rw [← hW]; simp
  have hW0 : W.heap[w.heap.size]? = some (.cells #[.int .i64 1, .int .i64 1, .slice ad m cap] 51 (0, 0)) := by
    rw [← hW, Below.heap_alloc _ _ _ (by simp)]; exact heap_alloc_new _ _
  have hW2 : W.heap[w.heap.size + 1]? = some (.cells #[.int .i64 0, .int .i64 0, .slice none 0 0] 51 (0, 0)) := by
    rw [← hW]; have := heap_alloc_new (w.alloc (.cells #[.int .i64 1, .int .i64 1, .slice ad m cap] 51)) (.cells #[.int .i64 0, .int .i64 0, .slice none 0 0] 51); simpa using this
  have HW := hide hW; have HB0 := hide hW1; have HR0 := hide hW0; have HZ0 := hide hW2
  clear hW hW1 hWs hW0 hW2
  clear h0 hn hSi hx hl hnm hSt
  generalize ab n = s at *
  generalize sfx (nm n) = sx at *
  go_enter Tryz.func23, Tryz.ntmps23
  go_wp2_with fail
  rw [unhide HW]
  refine (unhide HBy _).mono ?_
  rintro e w1 ⟨rfl, hb1⟩
  have HB1 := hide (Below.on (unhide HB0) hb1); have HR1 := hide ((hb1.block _ (Array.getElem?_eq_some_iff.1 (unhide HR0)).1).trans (unhide HR0)); have HZ1 := hide ((hb1.block _ (Array.getElem?_eq_some_iff.1 (unhide HZ0)).1).trans (unhide HZ0))
  clear hb1 HB0 HR0 HZ0 HW
  go_wp2_with fail
  refine (unhide HSi _).mono ?_
  rintro e w2 ⟨v2, rfl, ho2, hb2⟩
  obtain ⟨sa, sc, rfl⟩ := own_slice ho2
  have HB2 := hide (Below.on (unhide HB1) hb2); have HR2 := hide ((hb2.block _ (Array.getElem?_eq_some_iff.1 (unhide HR1)).1).trans (unhide HR1)); have HZ2 := hide ((hb2.block _ (Array.getElem?_eq_some_iff.1 (unhide HZ1)).1).trans (unhide HZ1))
  clear hb2 ho2 HB1 HR1 HZ1
  obtain ⟨q0, q1, q2⟩ := ebox (unhide HR2)
  have lt2 := (Array.getElem?_eq_some_iff.1 (unhide HR2)).1
  go_wp2_with fail
  refine (unhide HSt _ (unhide HB2)).mono ?_
  rintro e w3 ⟨ad', m', cap', rfl, hL3, hb3⟩
  have HB3 := hide (Below.on (unhide HB2) hb3); have HR3 := hide ((hb3.block _ (Array.getElem?_eq_some_iff.1 (unhide HR2)).1).trans (unhide HR2)); have HZ3 := hide ((hb3.block _ (Array.getElem?_eq_some_iff.1 (unhide HZ2)).1).trans (unhide HZ2))
  clear hb3 HB2 HR2 HZ2 q0 q1 q2 lt2
  obtain ⟨q0, q1, q2⟩ := ebox (unhide HR3)
  obtain ⟨r0, r1, r2⟩ := ebox (unhide HZ3)
  have g0 := frozen_of_row w3 (w.heap.size + 1) 0 _ _ (unhide HZ3)
  have g1 := frozen_of_row w3 (w.heap.size + 1) 1 _ _ (unhide HZ3)
  have g2 := frozen_of_row w3 (w.heap.size + 1) 2 _ _ (unhide HZ3)
  have lt2 := (Array.getElem?_eq_some_iff.1 (unhide HZ3)).1
  have n0 : ¬ w.heap.size = w3.heap.size := by omega
  have lt0 : w.heap.size < w3.heap.size := by omega
  have n1 : ¬ w.heap.size + 1 = w3.heap.size := by omega
  obtain ⟨k1, k2, k3⟩ := box3 (unhide HZ3) (.int .i64 1) (.int .i64 1) (.slice ad' m' cap')
  have KB := hide ((grown_below (unhide HB3) k2 (by omega) (by omega)).alloc (Nat.le_trans (by omega) (Nat.le_of_eq k3.symm)) (.cells #[.int .i64 1, .int .i64 1, .slice ad' m' cap'] 51))
  have KR := hide ((Below.heap_alloc (((w3.setCell ⟨w.heap.size + 1, 0, none⟩ (.int .i64 1)).setCell ⟨w.heap.size + 1, 1, none⟩ (.int .i64 1)).setCell ⟨w.heap.size + 1, 2, none⟩ (.slice ad' m' cap')) (.cells #[.int .i64 1, .int .i64 1, .slice ad' m' cap'] 51) (w.heap.size + 1) (by rw [k3]; omega)).trans k1)
  have KL := hide ((hL3.box (unhide HZ3) k2).below ((Below.refl _ _).alloc (Nat.le_refl _) (.cells #[.int .i64 1, .int .i64 1, .slice ad' m' cap'] 51)))
  clear k1 k2 k3 HR3 HZ3 HB3 hL3
  go_wp2
  obtain ⟨d0, d1, d2⟩ := ebox (unhide KR)
  generalize (((w3.setCell ⟨w.heap.size + 1, 0, none⟩ (.int .i64 1)).setCell ⟨w.heap.size + 1, 1, none⟩ (.int .i64 1)).setCell ⟨w.heap.size + 1, 2, none⟩ (.slice ad' m' cap')).alloc (.cells #[.int .i64 1, .int .i64 1, .slice ad' m' cap'] 51) = W5 at *
  refine bodyPost_ret (v := .tuple #[.agg #[.int .i64 1, .int .i64 1, .slice ad' m' cap'], .int .i64 0, .bool true]) (by simp [results, Tryz.results23, go_sem, d0, d1, d2]) rfl ⟨ad', m', cap', rfl, unhide KL, unhide KB⟩
end Go.Proofs.YtcljcnaglkbjcaaGreatDoor

/- InstBytes: both memories beside each other; what a load and a store tell of both. -/
namespace Go.Proofs.YtcljcnaglkbjcaaGreatDoor
open Go.RowKit Go.Maps Go.Shelf Mm
set_option linter.unusedVariables false

/-- the accesses that were handed in -/
structure Accs (w : World) (al : Option Addr) (ll : Nat) (A : Nat → Nat × Int × Int × Int) : Prop where
  at_ : 0 < ll → ∃ b off, al = some ⟨b, off, none⟩ ∧ b < w.heap.size ∧ ∀ i, i < ll →
    w.cell? ⟨b, off + i * 4, none⟩ = some (.int .u8 (A i).1) ∧ w.cell? ⟨b, off + i * 4 + 1, none⟩ = some (.int .u64 (A i).2.1) ∧ w.cell? ⟨b, off + i * 4 + 2, none⟩ = some (.int .u32 (A i).2.2.1) ∧
    w.cell? ⟨b, off + i * 4 + 3, none⟩ = some (.int .u64 (A i).2.2.2)
  bd : ∀ i, i < ll → (A i).1 < 256 ∧ U64 (A i).2.1 ∧ (0 ≤ (A i).2.2.1 ∧ (A i).2.2.1 < 4294967296) ∧ U64 (A i).2.2.2
  len : ll ≤ 9223372036854775807

/-- both memories, beside each other: the program's (its box at S + 1), the document's (its variable at S + 2) -/
structure Bo (w wr : World) (zs : List Int) (g capm : Nat) (ad : Option Addr) (n cap : Nat) : Prop where
  m : MemAt wr (w.heap.size + 1) g 4096 capm 1 zs
  sg : w.heap.size ≤ g
  l : LRow wr w.heap.size (.slice ad n cap) (nz zs 0)
  x : wr.heap[w.heap.size + 2]? = some (.cells #[.int .i64 1, .int .i64 1, .slice ad n cap] 51 (0, 0))
  b : Below w.heap.size w wr

namespace Bo
variable {w wr : World} {zs : List Int} {g capm : Nat} {ad : Option Addr} {n cap : Nat}
theorem later (h : Bo w wr zs g capm ad n cap) {w' : World} (hb : Below wr.heap.size wr w') : Bo w w' zs g capm ad n cap :=
  ⟨h.m.below (Nat.le_refl _) hb, h.sg, h.l.below hb, (hb.block _ (Array.getElem?_eq_some_iff.1 h.x).1).trans h.x, Below.on h.b hb⟩
theorem gx (h : Bo w wr zs g capm ad n cap) : g ≠ w.heap.size + 2 := by
  rintro e
  obtain ⟨cur, hc, _⟩ := h.m.row
  rw [e] at hc
  have := h.x.symm.trans hc
  simp at this
theorem lt2 (h : Bo w wr zs g capm ad n cap) : w.heap.size + 2 < wr.heap.size := (Array.getElem?_eq_some_iff.1 h.x).1
/-- the document's variable written anew -/
theorem put (h : Bo w wr zs g capm ad n cap) (ad' : Option Addr) (n' cap' : Nat) (zs' : List Int) (o : Obj) (hl : LRow wr w.heap.size (.slice ad' n' cap') (nz zs' 0)) :
    let w' := (((wr.setCell ⟨w.heap.size + 2, 0, none⟩ (.int .i64 1)).setCell ⟨w.heap.size + 2, 1, none⟩ (.int .i64 1)).setCell ⟨w.heap.size + 2, 2, none⟩ (.slice ad' n' cap')).alloc o
    MemAt w' (w.heap.size + 1) g 4096 capm 1 zs ∧ LRow w' w.heap.size (.slice ad' n' cap') (nz zs' 0) ∧ w'.heap[w.heap.size + 2]? = some (.cells #[.int .i64 1, .int .i64 1, .slice ad' n' cap'] 51 (0, 0)) ∧ Below w.heap.size w w' := by
  intro w'
  obtain ⟨k1, k2, k3⟩ := box3 h.x (.int .i64 1) (.int .i64 1) (.slice ad' n' cap')
  have hlt := h.lt2
  have hal : ∀ wx : World, Below wx.heap.size wx (wx.alloc o) := fun wx => (Below.refl _ _).alloc (Nat.le_refl _) _
  have hm := h.m.keep (k2.block _ h.m.ltb (by simp)) (k2.block _ h.m.ltg (by simpa using h.gx))
  have hb := grown_below h.b k2 (by omega) (by omega)
  exact ⟨hm.below (Nat.le_refl _) (hal _), (hl.box h.x k2).below (hal _), (Below.heap_alloc _ _ _ (by rw [k3]; exact hlt)).trans k1, Below.on hb (hal _)⟩
end Bo
/-- behind the program's own store -/
theorem bo_mk {w w1 w2 : World} {zs zs' : List Int} {g capm : Nat} {ad : Option Addr} {n cap : Nat}
    (h : MemAt w1 (w.heap.size + 1) g 4096 capm 1 zs ∧ LRow w1 w.heap.size (.slice ad n cap) (nz zs' 0) ∧ w1.heap[w.heap.size + 2]? = some (.cells #[.int .i64 1, .int .i64 1, .slice ad n cap] 51 (0, 0)) ∧ Below w.heap.size w w1)
    (sg : w.heap.size ≤ g) (hm2 : MemAt w2 (w.heap.size + 1) g 4096 capm 1 zs') (ho : Oth (w.heap.size + 1) g w1 w2) : Bo w w2 zs' g capm ad n cap := by
  obtain ⟨hm, hl, hx, hb⟩ := h
  have hs := hb.size
  refine ⟨hm2, sg, hl.oth hm ho, ?_, hb.trans (ho.below hs (by omega) sg)⟩
  rw [ho.block _ (Array.getElem?_eq_some_iff.1 hx).1 (by omega) ?_]
  · exact hx
  · rintro e
    obtain ⟨cur, hc, _⟩ := hm.row
    rw [← e] at hc
    have := hx.symm.trans hc
    simp at this

/-- a load answers both sides the same -/
def LoadB (n : Nat) (a o : Int) (zs : List Int) (V T : Int) (er : Value) (is : Bool) : Prop :=
  (∀ W b g cap, MemAt W b g 4096 cap 1 zs → Tb W → Calls Tryz.prog 21 #[.pointer (some ⟨b, 0, none⟩), .int .u8 n, .int .u64 a, .int .u32 o] W fun e w' => e = .returned (.tuple #[.int .u64 V, .int .i64 T, er]) ∧ Below W.heap.size W w') ∧
  (∀ W B ad m cap, LRow W B (.slice ad m cap) (nz zs 0) → Calls Tryz.prog 22 #[.agg #[.int .i64 1, .int .i64 1, .slice ad m cap], .int .u8 n, .int .u64 a, .int .u32 o] W fun e w' => e = .returned (.tuple #[.int .u64 V, .int .i64 T, .bool is]) ∧ Below W.heap.size W w')

theorem load_both (n : Nat) (hn : n < 256) (a o : Int) (ha : U64 a) (ho : 0 ≤ o ∧ o < 4294967296) (zs : List Int) (hby : ∀ z ∈ zs, 0 ≤ z ∧ z ≤ 255) :
    (¬ (ab n ≠ 0 ∧ n < 54) ∧ LoadB n a o zs 0 0 (.iface 135 (.int .i64 1)) false) ∨ (ab n ≠ 0 ∧ n < 54 ∧ ∃ V T, LoadB n a o zs V T .nilIface true) := by
  by_cases h : ab n ≠ 0 ∧ n < 54
  · right
    refine ⟨h.1, h.2, ?_⟩
    have ho' : U64 o := ⟨ho.1, by omega⟩
    cases hf : fits (1 * 4096) (a % 4294967296) o (ab n)
    · exact ⟨0, 4, fun W b g cap hm hT => load9_far hm n h.2 h.1 a o ha ho hf hT, fun W B ad m cap hl => rl_far n h.2 h.1 ad m cap a o ha ho W fun W' hW' => refLoad_no 1 cap m ad 1 _ o _ W' (by omega) (low_bd a ha) ho' hf⟩
    · refine ⟨_, 0, fun W b g cap hm hT => load9_yes hm n h.2 h.1 a o ha ho hf hT, fun W B ad m cap hl => ?_⟩
      have hbd := ldZ_bd (ab n).toNat zs (a % 4294967296 + o).toNat (bytes_at hby)
      exact rl_yes n h.2 h.1 ad m cap a o _ ha ho hbd.1 hbd.2 W fun W' hW' => refLoad_yes (P := 1) (hl.below hW') hby 1 _ o _ (by omega) (low_bd a ha) ho' hf
  · left
    refine ⟨h, fun W b g cap hm hT => load9_no _ n hn (by by_cases e : ab n = 0; exact .inl e; exact .inr (by have := fun x => h ⟨e, x⟩; omega)) a o W hT, fun W B ad m cap hl => ?_⟩
    by_cases e : ab n = 0
    · exact rl_no0 n hn e ad m cap a o W
    · exact rl_no1 n (by have := fun x => h ⟨e, x⟩; omega) e ad m cap a o W

/-- a store answers both sides the same, and leaves the same -/
def StoreB (n : Nat) (a o v : Int) (zs zs' : List Int) (T : Int) (er : Value) (is : Bool) : Prop :=
  (∀ W b g cap, MemAt W b g 4096 cap 1 zs → Tb W → Calls Tryz.prog 24 #[.pointer (some ⟨b, 0, none⟩), .int .u8 n, .int .u64 a, .int .u32 o, .int .u64 v] W fun e w' => e = .returned (.tuple #[.int .i64 T, er]) ∧ MemAt w' b g 4096 cap 1 zs' ∧ Oth b g W w') ∧
  (∀ W B ad m cap, B ≤ W.heap.size → LRow W B (.slice ad m cap) (nz zs 0) → Calls Tryz.prog 23 #[.agg #[.int .i64 1, .int .i64 1, .slice ad m cap], .int .u8 n, .int .u64 a, .int .u32 o, .int .u64 v] W fun e w' => ∃ ad' m' cap', e = .returned (.tuple #[.agg #[.int .i64 1, .int .i64 1, .slice ad' m' cap'], .int .i64 T, .bool is]) ∧ LRow w' B (.slice ad' m' cap') (nz zs' 0) ∧ Below W.heap.size W w')

theorem store_both (n : Nat) (hn : n < 256) (a o v : Int) (ha : U64 a) (ho : 0 ≤ o ∧ o < 4294967296) (hv : U64 v) (zs : List Int) (hby : ∀ z ∈ zs, 0 ≤ z ∧ z ≤ 255) (hlen : zs.length = 4096) :
    (¬ (ab n ≠ 0 ∧ 54 ≤ n) ∧ StoreB n a o v zs zs 0 (.iface 135 (.int .i64 1)) false) ∨ (ab n ≠ 0 ∧ 54 ≤ n ∧ ∃ zs' T, StoreB n a o v zs zs' T .nilIface true) := by
  by_cases h : ab n ≠ 0 ∧ 54 ≤ n
  · right
    refine ⟨h.1, h.2, ?_⟩
    have ho' : U64 o := ⟨ho.1, by omega⟩
    cases hf : fits (1 * 4096) (a % 4294967296) o (ab n)
    · refine ⟨zs, 4, fun W b g cap hm hT => (store9_far hm n h.2 h.1 a o v ha ho hv hf hT).mono fun e w' ⟨h1, h2⟩ => ⟨h1, hm.below (Nat.le_refl _) h2, Oth.ofBelow h2⟩, fun W B ad m cap hB hl => ?_⟩
      exact (rs_far n h.2 h.1 ad m cap a o v ha ho W fun W' hW' => refStore_no 1 cap m ad 1 _ o _ v W' (by omega) (low_bd a ha) ho' hf).mono fun e w' ⟨h1, h2⟩ => ⟨ad, m, cap, h1, hl.below h2, h2⟩
    · refine ⟨_, 0, fun W b g cap hm hT => store9_yes hm n h.2 h.1 a o v ha ho hv hf hT, fun W B ad m cap hB hl => ?_⟩
      exact rs_yes n h.2 h.1 ad m cap B _ a o v ha ho W fun W' hW' => refStore_yes (P := 1) (hl.below hW') (Nat.le_trans hB hW'.size) hlen hby 1 _ o _ v (by omega) (low_bd a ha) ho' hv hf
  · left
    refine ⟨h, fun W b g cap hm hT => (store9_no _ n hn (by by_cases e : ab n = 0; exact .inl e; exact .inr (by have := fun x => h ⟨e, x⟩; omega)) a o v W hT).mono fun e w' ⟨h1, h2⟩ => ⟨h1, hm.below (Nat.le_refl _) h2, Oth.ofBelow h2⟩, fun W B ad m cap hB hl => ?_⟩
    by_cases e : ab n = 0
    · exact (rs_no0 n hn e ad m cap a o v W).mono fun e w' ⟨h1, h2⟩ => ⟨ad, m, cap, h1, hl.below h2, h2⟩
    · exact (rs_no1 n (by have := fun x => h ⟨e, x⟩; omega) e ad m cap a o v W).mono fun e w' ⟨h1, h2⟩ => ⟨ad, m, cap, h1, hl.below h2, h2⟩
end Go.Proofs.YtcljcnaglkbjcaaGreatDoor
