/- The document's Name, Ends, Memory, Pure of an instruction. -/
import Derived.Test.YtgelkfmdkmopbaaDoorVcN
import Derived.Test.YtgelkfmdkmopbaaDoorOpFm
namespace Go.Proofs.YtgelkfmdkmopbaaDoor
open Go.RowKit
namespace Vc
set_option linter.unusedVariables false
set_option linter.unusedSimpArgs false

/-- which numbers the document's Name hands on -/
def rsp (n : Nat) : Bool := decide (n = 15 ∨ n = 0 ∨ n = 16 ∨ n = 17 ∨ n = 27 ∨ n = 35 ∨ n = 36)
def rnm (n : Nat) : List UInt8 :=
  if n = 66 then [99, 111, 110, 115, 116]
  else if n = 192 then [109, 111, 118, 101]
  else if n = 193 then [106, 117, 109, 112]
  else if n = 194 then [98, 114, 97, 110, 99, 104]
  else if n = 195 then [116, 97, 98, 108, 101]
  else if rsp n then nm n
  else if decide (40 ≤ n) && !decide (n = 65) then nm n
  else []

set_option maxRecDepth 100000 in
set_option maxHeartbeats 3200000 in
theorem rnm_any (n : Nat) (hn : n < 256) (w : World) :
    Calls Tryd.prog 29 #[.int .u8 n] w fun e w' => e = .returned (.string (str (rnm n))) ∧ Below w.heap.size w w' := by
  by_cases h0 : n = 66 ∨ n = 192 ∨ n = 193 ∨ n = 194 ∨ n = 195
  · rcases h0 with rfl | rfl | rfl | rfl | rfl
    all_goals
      go_enter Tryd.func29, Tryd.ntmps29
      go_wp2
      go_ret
      exact ⟨rfl, Below.refl _ _⟩
  have hc := namer_any n hn w
  by_cases h1 : n = 15 ∨ n = 0 ∨ n = 16 ∨ n = 17 ∨ n = 27 ∨ n = 35 ∨ n = 36
  · rcases h1 with rfl | rfl | rfl | rfl | rfl | rfl | rfl
    all_goals
      have HC := hide hc
      clear hc h0
      go_enter Tryd.func29, Tryd.ntmps29
      go_wp2_with fail
      refine (unhide HC).mono ?_
      rintro e w1 ⟨rfl, hb⟩
      have HB := hide hb; clear hb
      go_wp2
      go_ret
      exact ⟨rfl, unhide HB⟩
  have t0 : ((n : Int) == 66) = false := by simp; omega
  have t1 : ((n : Int) == 192) = false := by simp; omega
  have t2 : ((n : Int) == 193) = false := by simp; omega
  have t3 : ((n : Int) == 194) = false := by simp; omega
  have t4 : ((n : Int) == 195) = false := by simp; omega
  have u0 : ((n : Int) == 15) = false := by simp; omega
  have u1 : ((n : Int) == 0) = false := by simp; omega
  have u2 : ((n : Int) == 16) = false := by simp; omega
  have u3 : ((n : Int) == 17) = false := by simp; omega
  have u4 : ((n : Int) == 27) = false := by simp; omega
  have u5 : ((n : Int) == 35) = false := by simp; omega
  have u6 : ((n : Int) == 36) = false := by simp; omega
  have hr : rnm n = if decide (40 ≤ n) && !decide (n = 65) then nm n else [] := by
    unfold rnm rsp
    rw [if_neg (by omega), if_neg (by omega), if_neg (by omega), if_neg (by omega), if_neg (by omega), if_neg (by simpa using h1)]
  by_cases h2 : (40 : Int) ≤ n
  · by_cases h3 : (n : Int) = 65
    · have HR := hide (show rnm n = [] by rw [hr, if_neg (by simp; omega)])
      have t5 : ((n : Int) != 65) = false := by simpa using h3
      have hne : n = 65 := by omega
      subst hne
      clear hr h0 h1 hc t0 t1 t2 t3 t4 u0 u1 u2 u3 u4 u5 u6 h2 h3 t5
      go_enter Tryd.func29, Tryd.ntmps29
      go_wp2
      go_ret
      exact ⟨by rw [unhide HR]; rfl, Below.refl _ _⟩
    · have HR := hide (show rnm n = nm n by rw [hr, if_pos (by simp; omega)])
      have t5 : ((n : Int) != 65) = true := by simpa using h3
      have HC := hide hc
      clear hr h0 h1 hc h3
      generalize nm n = l at *
      go_enter Tryd.func29, Tryd.ntmps29
      go_wp2_with fail
      refine (unhide HC).mono ?_
      rintro e w1 ⟨rfl, hb⟩
      have HB := hide hb; clear hb
      go_wp2
      go_ret
      exact ⟨by rw [unhide HR]; rfl, unhide HB⟩
  · have HR := hide (show rnm n = [] by rw [hr, if_neg (by simp; omega)])
    have t6 : decide ((n : Int) ≥ 40) = false := by simp; omega
    have t7 : decide ((40 : Int) ≤ n) = false := by simp; omega
    clear hr h0 h1 hc h2
    go_enter Tryd.func29, Tryd.ntmps29
    go_wp2
    go_ret
    exact ⟨by rw [unhide HR]; rfl, Below.refl _ _⟩
set_option maxRecDepth 100000 in
theorem rends_any (n : Nat) (hn : n < 256) (w : World) :
    Calls Tryd.prog 19 #[.int .u8 n] w fun e w' => e = .returned (.bool (ends n)) ∧ w' = w := by
  by_cases h0 : n = 193 ∨ n = 194 ∨ n = 195 ∨ n = 15 ∨ n = 0
  · rcases h0 with rfl | rfl | rfl | rfl | rfl
    all_goals
      go_enter Tryd.func19, Tryd.ntmps19
      go_wp2
      go_ret
      exact ⟨rfl, rfl⟩
  have HR := hide (show ends n = false by unfold ends; simp; omega)
  have t2 : ((n : Int) == 193) = false := by simp; omega
  have t3 : ((n : Int) == 194) = false := by simp; omega
  have t4 : ((n : Int) == 195) = false := by simp; omega
  have u0 : ((n : Int) == 15) = false := by simp; omega
  have u1 : ((n : Int) == 0) = false := by simp; omega
  clear h0
  go_enter Tryd.func19, Tryd.ntmps19
  go_wp2
  go_ret
  exact ⟨ret_bool (unhide HR).symm, rfl⟩
set_option maxRecDepth 100000 in
theorem rmem_any (n : Nat) (hn : n < 256) (w : World) :
    Calls Tryd.prog 33 #[.int .u8 n] w fun e w' => e = .returned (.bool (acc n)) ∧ Below w.heap.size w w' := by
  have hc := formr_all n hn w
  unfold acc
  cases hf : fam n with
  | none =>
    rw [hf] at hc
    simp only [Option.map_none, Option.getD_none, Option.isSome_none] at hc
    have HC := hide hc
    clear hc hf
    go_enter Tryd.func33, Tryd.ntmps33
    go_wp2_with fail
    refine (unhide HC).mono ?_
    rintro e w1 ⟨rfl, hb⟩
    have HB := hide hb; clear hb
    go_wp2
    go_ret
    exact ⟨rfl, unhide HB⟩
  | some x =>
    rw [hf] at hc
    simp only [Option.map_some, Option.getD_some, Option.isSome_some] at hc ⊢
    have HC := hide hc
    generalize x.o = xo at *
    clear hc hf
    go_enter Tryd.func33, Tryd.ntmps33
    go_wp2_with fail
    refine (unhide HC).mono ?_
    rintro e w1 ⟨rfl, hb⟩
    have HB := hide hb; clear hb
    go_wp2
    go_ret
    exact ⟨rfl, unhide HB⟩

/-- the document's Pure, by a name -/
def rpu (n : Nat) (l : List UInt8) : Bool :=
  (l == [99, 111, 110, 115, 116] || l == [109, 111, 118, 101] || l == [115, 101, 108, 101, 99, 116] || l == [109, 101, 109, 111, 114, 121, 46, 115, 105, 122, 101] || l == [103, 108, 111, 98, 97, 108, 46, 103, 101, 116]) ||
  (!(l == [] || decide (n < 67) || decide (192 ≤ n)) && (decide (l.length < 7) || (!((l.drop 4).take 3 == [100, 105, 118]) && !((l.drop 4).take 3 == [114, 101, 109]))))
set_option maxRecDepth 100000 in
theorem rpu_all : ((List.range 256).all fun n => rpu n (rnm n) == pur n) = true := by kernel_rfl
theorem rpu_at (n : Nat) (hn : n < 256) : rpu n (rnm n) = pur n := by
  have := List.all_eq_true.1 rpu_all n (List.mem_range.2 hn)
  simpa using this
theorem rnm_len : ∀ n, n < 256 → (rnm n).length < 100 := by
  have h : ((List.range 256).all fun n => decide ((rnm n).length < 100)) = true := by kernel_rfl
  intro n hn
  have := List.all_eq_true.1 h n (List.mem_range.2 hn)
  simpa using this

set_option maxRecDepth 100000 in
set_option maxHeartbeats 3200000 in
theorem rpur_any (n : Nat) (hn : n < 256) (w : World) :
    Calls Tryd.prog 21 #[.int .u8 n] w fun e w' => e = .returned (.bool (pur n)) ∧ Below w.heap.size w w' := by
  have hc := rnm_any n hn w
  have hp := rpu_at n hn
  have hl := rnm_len n hn
  generalize rnm n = l at *
  have hd : rpu n l = ((l == [99, 111, 110, 115, 116] || l == [109, 111, 118, 101] || l == [115, 101, 108, 101, 99, 116] || l == [109, 101, 109, 111, 114, 121, 46, 115, 105, 122, 101] || l == [103, 108, 111, 98, 97, 108, 46, 103, 101, 116]) ||
    (!(l == [] || decide (n < 67) || decide (192 ≤ n)) && (decide (l.length < 7) || (!((l.drop 4).take 3 == [100, 105, 118]) && !((l.drop 4).take 3 == [114, 101, 109]))))) := rfl
  have e0 : ∀ q, ((str l).toList == q) = (l == q) := fun q => by rw [str_toList]
  have e1 : (str l).toList.isEmpty = (l == []) := by rw [str_toList]; cases l <;> rfl
  have e2 : (str l).size = l.length := rfl
  have e3 : ∀ q, (((str l).extract 4 7).toList == q) = ((l.drop 4).take 3 == q) := fun q => by rw [str_extract, str_toList]
  generalize str l = S at *
  have HC := hide hc; have HP := hide hp; have HD := hide hd
  clear hc hp hd
  have b1 := e0 [99, 111, 110, 115, 116]
  have b2 := e0 [109, 111, 118, 101]
  have b3 := e0 [115, 101, 108, 101, 99, 116]
  have b4 := e0 [109, 101, 109, 111, 114, 121, 46, 115, 105, 122, 101]
  have b5 := e0 [103, 108, 111, 98, 97, 108, 46, 103, 101, 116]
  have b7 := e3 [100, 105, 118]
  have b8 := e3 [114, 101, 109]
  clear e0 e3
  generalize (l == [99, 111, 110, 115, 116]) = q1 at *
  generalize (l == [109, 111, 118, 101]) = q2 at *
  generalize (l == [115, 101, 108, 101, 99, 116]) = q3 at *
  generalize (l == [109, 101, 109, 111, 114, 121, 46, 115, 105, 122, 101]) = q4 at *
  generalize (l == [103, 108, 111, 98, 97, 108, 46, 103, 101, 116]) = q5 at *
  generalize (l == []) = q6 at *
  generalize ((l.drop 4).take 3 == [100, 105, 118]) = q7 at *
  generalize ((l.drop 4).take 3 == [114, 101, 109]) = q8 at *
  have fin : ∀ b, rpu n l = b → pur n = b := fun b h => (unhide HP).symm.trans h
  have FIN := hide fin
  generalize hpr : pur n = PR at *
  generalize hll : l.length = ll at *
  clear fin hpr hll HP
  have ex : ∀ b, rpu n l = b → Ending.returned (.bool b) = .returned (.bool PR) := fun b h => ret_bool (unhide FIN b h).symm
  have EX := hide ex; clear ex FIN
  have start : ∀ (b : Bool), True := fun _ => trivial
  clear start
  cases q1 with
  | true =>
    have HF := hide (unhide EX true (by rw [unhide HD]; rfl))
    go_enter Tryd.func21, Tryd.ntmps21
    go_wp2_with fail
    refine (unhide HC).mono ?_
    rintro e w1 ⟨rfl, hb⟩
    have HB := hide hb; clear hb
    go_wp2
    go_ret
    exact ⟨unhide HF, unhide HB⟩
  | false =>
  cases q2 with
  | true =>
    have HF := hide (unhide EX true (by rw [unhide HD]; rfl))
    go_enter Tryd.func21, Tryd.ntmps21
    go_wp2_with fail
    refine (unhide HC).mono ?_
    rintro e w1 ⟨rfl, hb⟩
    have HB := hide hb; clear hb
    go_wp2
    go_ret
    exact ⟨unhide HF, unhide HB⟩
  | false =>
  cases q3 with
  | true =>
    have HF := hide (unhide EX true (by rw [unhide HD]; rfl))
    go_enter Tryd.func21, Tryd.ntmps21
    go_wp2_with fail
    refine (unhide HC).mono ?_
    rintro e w1 ⟨rfl, hb⟩
    have HB := hide hb; clear hb
    go_wp2
    go_ret
    exact ⟨unhide HF, unhide HB⟩
  | false =>
  cases q4 with
  | true =>
    have HF := hide (unhide EX true (by rw [unhide HD]; rfl))
    go_enter Tryd.func21, Tryd.ntmps21
    go_wp2_with fail
    refine (unhide HC).mono ?_
    rintro e w1 ⟨rfl, hb⟩
    have HB := hide hb; clear hb
    go_wp2
    go_ret
    exact ⟨unhide HF, unhide HB⟩
  | false =>
  cases q5 with
  | true =>
    have HF := hide (unhide EX true (by rw [unhide HD]; rfl))
    go_enter Tryd.func21, Tryd.ntmps21
    go_wp2_with fail
    refine (unhide HC).mono ?_
    rintro e w1 ⟨rfl, hb⟩
    have HB := hide hb; clear hb
    go_wp2
    go_ret
    exact ⟨unhide HF, unhide HB⟩
  | false =>
  cases q6 with
  | true =>
    have HF := hide (unhide EX false (by rw [unhide HD]; rfl))
    go_enter Tryd.func21, Tryd.ntmps21
    go_wp2_with fail
    refine (unhide HC).mono ?_
    rintro e w1 ⟨rfl, hb⟩
    have HB := hide hb; clear hb
    go_wp2
    go_ret
    exact ⟨unhide HF, unhide HB⟩
  | false =>
  by_cases a1 : (n : Int) < 67
  · have HF := hide (unhide EX false (by rw [unhide HD]; simp; omega))
    go_enter Tryd.func21, Tryd.ntmps21
    go_wp2_with fail
    refine (unhide HC).mono ?_
    rintro e w1 ⟨rfl, hb⟩
    have HB := hide hb; clear hb
    go_wp2
    go_ret
    exact ⟨unhide HF, unhide HB⟩
  by_cases a2 : (192 : Int) ≤ n
  · have HF := hide (unhide EX false (by rw [unhide HD]; simp; omega))
    have t1 : decide ((n : Int) < 67) = false := by simpa using a1
    clear a1
    go_enter Tryd.func21, Tryd.ntmps21
    go_wp2_with fail
    refine (unhide HC).mono ?_
    rintro e w1 ⟨rfl, hb⟩
    have HB := hide hb; clear hb
    go_wp2
    go_ret
    exact ⟨unhide HF, unhide HB⟩
  have t1 : decide ((n : Int) < 67) = false := by simpa using a1
  have t2 : decide ((192 : Int) ≤ n) = false := by simpa using a2
  have t3 : decide ((n : Int) ≥ 192) = false := by simp; omega
  have HD2 := hide (show rpu n l = (decide (ll < 7) || (!q7 && !q8)) by rw [unhide HD, show decide (n < 67) = false by simp; omega, show decide (192 ≤ n) = false by simp; omega]; rfl)
  clear a1 a2 HD
  by_cases a3 : (ll : Int) < 7
  · have HF := hide (unhide EX true (by rw [unhide HD2, show decide (ll < 7) = true by simp; omega]; rfl))
    have s1 : (S.size : Int) < 7 := by omega
    clear a3
    go_enter Tryd.func21, Tryd.ntmps21
    go_wp2_with fail
    refine (unhide HC).mono ?_
    rintro e w1 ⟨rfl, hb⟩
    have HB := hide hb; clear hb
    go_wp2
    go_ret
    exact ⟨unhide HF, unhide HB⟩
  have s1 : decide ((S.size : Int) < 7) = false := by simp; omega
  have s2 : (7 : Int) ≤ (S.size : Int) := by omega
  have s3 : (4 : Int) ≤ (S.size : Int) := by omega
  have HD3 := hide (show rpu n l = (!q7 && !q8) by rw [unhide HD2, show decide (ll < 7) = false by simp; omega]; rfl)
  clear a3 HD2 e2 hl
  cases q7 with
  | true =>
    have HF := hide (unhide EX false (by rw [unhide HD3]; rfl))
    go_enter Tryd.func21, Tryd.ntmps21
    go_wp2_with fail
    refine (unhide HC).mono ?_
    rintro e w1 ⟨rfl, hb⟩
    have HB := hide hb; clear hb
    go_wp2
    go_ret
    exact ⟨unhide HF, unhide HB⟩
  | false =>
    have HF := hide (unhide EX (!q8) (by rw [unhide HD3]; rfl))
    go_enter Tryd.func21, Tryd.ntmps21
    go_wp2_with fail
    refine (unhide HC).mono ?_
    rintro e w1 ⟨rfl, hb⟩
    have HB := hide hb; clear hb
    cases q8
    all_goals
      go_wp2
      go_ret
      exact ⟨unhide HF, unhide HB⟩

set_option maxRecDepth 100000 in
set_option maxHeartbeats 3200000 in
theorem ops_walk (n : Nat) (hn : n < 256) (w : World) (hT : Fms w) (hN : Nms w) (hP : P10 w) :
    Calls Tryd.prog 4 #[.int .u8 n] w fun e w' => e = .returned (.bool true) ∧ Below w.heap.size w w' := by
  have h1 := vends_any n hn w
  have h2 := rends_any n hn w
  have h3 := pur_any n hn w hT
  have h4 := fun W => rpur_any n hn W
  have h5 := fun W a b c => sure_any W a b c
  have H1 := hide h1; have H2 := hide h2; have H3 := hide h3; have H4 := hide h4; have H5 := hide h5; have HT := hide hT; have HN := hide hN; have HP := hide hP
  clear h1 h2 h3 h4 h5 hT hN hP
  generalize ends n = b1 at *
  generalize pur n = b2 at *
  go_enter Tryd.func4, Tryd.ntmps4
  go_wp2_with fail
  refine (unhide H1).mono ?_
  rintro e w1 ⟨rfl, rfl⟩
  go_wp2_with fail
  refine (unhide H2).mono ?_
  rintro e w2 ⟨rfl, rfl⟩
  cases b1
  all_goals
    go_wp2_with fail
    refine (unhide H3).mono ?_
    rintro e w3 ⟨rfl, hb3⟩
    go_wp2_with fail
    refine (unhide H4 _).mono ?_
    rintro e w4 ⟨rfl, hb4⟩
    have hb := Below.on hb3 hb4
    have HB := hide hb
    clear hb hb3 hb4
    cases b2
    all_goals
      go_wp2_with fail
      refine (unhide H5 _ (TC.below (unhide HT) (unhide HB)) ((unhide HN).below (unhide HB)) ((unhide HP).below (unhide HB))).mono ?_
      rintro e w5 ⟨rfl, hb5⟩
      have HB5 := hide (Below.on (unhide HB) hb5)
      clear hb5
      go_wp2
      go_ret
      exact ⟨rfl, unhide HB5⟩
end Vc
end Go.Proofs.YtgelkfmdkmopbaaDoor
