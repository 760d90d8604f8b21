/- ExprDeep returns true for every two ints, and leaves them: blocks may stand 64 deep in others, and not one deeper; a br_table has one label at least, and 257 at most. Of ops' tables and of errors.errorType it takes what the program's text lays (the card ties it). -/
import Derived.Test.YtjhmglefejclpaaDoorGD
import Derived.Deep.OwnRows
import Derived.Laws.OwnMore
import Derived.Test.YtjhmglefejclpaaDoorRows
import Derived.WalkKit
import Derived.ProofKit
import Derived.OpenShut
import Derived.ShutString
import Derived.Test.YtjhmglefejclpaaDoorTie
import Derived.Test.YtjhmglefejclpaaDoorCards
import Derived.Test.YtjhmglefejclpaaDoorGA

/- ExprDeep's walk. -/
namespace Go.Proofs.YtjhmglefejclpaaDoor
open Go.RowKit
namespace Ex
set_option linter.unusedVariables false
set_option linter.unusedSimpArgs false

def opD (j : Nat) : Int := 2 + (j : Int) % 2
theorem opD23 (j : Nat) : opD j = 2 ∨ opD j = 3 := by unfold opD; omega
/-- 65 blocks are one too many -/
theorem deep_err {zs : List Int} (hl : 130 ≤ zs.length) (h : ∀ i, i ≤ 64 → zs.getD (2 * i) 0 = 2 ∧ zs.getD (2 * i + 1) 0 = 64) : ∀ n j, j + n = 64 → (D zs (2 * j) j j false).e = 9 ∧ (D zs (2 * j) j j false).at_ = 128
  | 0, j, hj => by
    obtain rfl : j = 64 := by omega
    have hb : pB zs 128 (jO 64 64 false) = ⟨9, 128, 0⟩ := by
      unfold pB
      rw [if_neg (by omega), (h 64 (by omega)).1]
      rfl
    rw [D_eq zs (2 * 64) 64 64 false (by omega)]
    unfold step
    rw [show 2 * 64 = 128 from rfl, hb, Part.on_no (by decide)]
    exact ⟨rfl, rfl⟩
  | n + 1, j, hj => by
    have ih := deep_err hl h n (j + 1) (by omega)
    have hJ : jO j j false 2 = 0 := by
      rw [jO_gen (by decide), show flt 2 = false by kernel_rfl, show frm 2 = some 6 by kernel_rfl]
      simp only [Bool.false_eq_true, if_false]
      rw [if_neg]; rintro (e | ⟨_, e⟩) <;> omega
    have hb : pB zs (2 * j) (jO j j false) = ⟨0, 2 * j + 1, 2⟩ := by
      unfold pB
      rw [if_neg (by omega), (h j (by omega)).1, if_pos hJ]
    have hk : pB zs (2 * j + 1) jK = ⟨0, 2 * j + 2, 64⟩ := by
      unfold pB
      rw [if_neg (by omega), (h j (by omega)).2]; rfl
    have hI : pI (D zs) zs (2 * j + 1) (j + 1) j 2 = (pB zs (2 * j + 1) jK).on (j + 1) (plain 2) fun a1 c => pK (D zs) a1 (j + 1) j 2 (kV c) := by unfold pI; rw [(fr23 2 (.inl rfl)).1]; rfl
    have hX : (pI (D zs) zs (2 * j + 1) (j + 1) j 2).e = 9 ∧ (pI (D zs) zs (2 * j + 1) (j + 1) j 2).at_ = 128 := by
      rw [hI, hk, Part.on_ok rfl]
      unfold pK
      simp only
      rw [(fr23 2 (.inl rfl)).1, show decide ((6 : Int) = 7) = false from rfl]
      rw [show 2 * (j + 1) = 2 * j + 2 by omega] at ih
      rw [Out.on_no (by rw [ih.1]; decide)]
      exact ih
    rw [D_eq zs (2 * j) j j false (by omega)]
    unfold step
    rw [hb, Part.on_ok rfl]
    simp only
    rw [if_neg (by decide), Out.on_no (by rw [hX.1]; decide)]
    exact hX
/-- what is laid where blocks are too deep -/
def dB (k : Nat) : List Int := (List.replicate k [2, 64]).flatten
theorem dB_succ (k : Nat) : dB (k + 1) = dB k ++ [2, 64] := by unfold dB; rw [List.replicate_succ', List.flatten_append]; simp
theorem dB_len (k : Nat) : (dB k).length = 2 * k := by
  induction k with
  | zero => rfl
  | succ k ih => rw [dB_succ, List.length_append, ih]; simp; omega
theorem dB_get (k : Nat) : ∀ i, i < k → (dB k).getD (2 * i) 0 = 2 ∧ (dB k).getD (2 * i + 1) 0 = 64 := by
  induction k with
  | zero => intro i hi; omega
  | succ k ih =>
    intro i hi
    rw [dB_succ]
    have hl := dB_len k
    by_cases h : i < k
    · have := ih i h
      simp only [List.getD] at this ⊢
      rw [List.getElem?_append_left (by omega), List.getElem?_append_left (by omega)]
      exact this
    · obtain rfl : i = k := by omega
      simp only [List.getD]
      rw [List.getElem?_append_right (by omega), List.getElem?_append_right (by omega), hl]
      simp
def rowE (k q : Nat) : List Value := (dB k ++ List.replicate q 11).map (Value.int .u8)
theorem rowE_succ (k q : Nat) : rowE k (q + 1) = rowE k q ++ [.int .u8 11] := by unfold rowE; rw [List.replicate_succ', ← List.append_assoc, List.map_append]; rfl
theorem dB_bytes (k : Nat) : ∀ z ∈ dB k, 0 ≤ z ∧ z ≤ 255 := by
  intro z hz
  unfold dB at hz
  simp at hz
  obtain ⟨l, ⟨_, rfl⟩, hz⟩ := hz
  simp at hz
  rcases hz with rfl | rfl <;> decide
theorem deep_D (k m : Nat) (hk : 65 ≤ k) : (D (dB k ++ List.replicate m 11) 0 0 0 false).e = 9 ∧ (D (dB k ++ List.replicate m 11) 0 0 0 false).at_ = 128 := by
  have hl := dB_len k
  refine deep_err (by rw [List.length_append]; omega) (fun i hi => ?_) 64 0 rfl
  have := dB_get k i (by omega)
  simp only [List.getD] at this ⊢
  rw [List.getElem?_append_left (by omega), List.getElem?_append_left (by omega)]
  exact this
/-- a br_table of so many labels -/
def tbl (m : Nat) : List Ins := [⟨14, 0, 0, 0, 0, [], [], List.replicate m 0⟩]
theorem fr14 : fr 14 = 8 ∧ (frm 14).isSome = true := ⟨by kernel_rfl, by kernel_rfl⟩
theorem fitL (op : Int) (ls : List Int) (h : 0 ≤ op ∧ op ≤ 255) (hl : ∀ z ∈ ls, 0 ≤ z ∧ z < 4294967296) : fit op 0 0 0 0 ls := ⟨h, by decide, by decide, by decide, by decide, hl⟩
theorem tbl_wf (m : Nat) : Wf (tbl m) := (Wf_cons _ _).2 ⟨⟨fitL 14 _ (by decide) (fun z hz => by obtain rfl := (List.mem_replicate.1 hz).2; decide), Wf_nil, Wf_nil⟩, Wf_nil⟩
theorem tbl_sz (m : Nat) (h : m ≤ 1000) : Sz 1099511627776 (tbl m) := (Sz_cons _ _ _).2 ⟨⟨by simp, by simp, by simp; omega, Sz_nil _, Sz_nil _⟩, Sz_nil _⟩
theorem tbl_may (m : Nat) : mayB (tbl m) = decide (1 ≤ m ∧ m ≤ 257) := by
  unfold mayB okL tbl
  rw [may_cons, may_nil, cnt_cons, cnt_nil]
  unfold mayI one
  simp only [fr14.1, fr14.2, cnt_nil]
  simp [bnd, alo, blk]
theorem deep_may (k : Nat) (h : k ≤ 100) : mayB (inB opD k []) = decide (k ≤ 64) := by
  unfold mayB okL
  rw [inB_cnt, cnt_nil]
  by_cases hk : k ≤ 64
  · rw [inB_may opD23 [] k 0 (by omega) (may_nil _)]; simp [hk]; omega
  · rw [inB_deep opD23 [] k 0 (by omega) (by omega)]; simp [hk]

set_option maxRecDepth 100000 in
set_option maxHeartbeats 6400000 in
theorem deep_yy (n labels : Int) (w : World) (hT : Tb w) (hE : ErrT w) (K M : Nat) (eK : (IntKind.u64.wrap n).tmod 8 = (K : Int)) (hK : K < 8) (eM : (IntKind.u64.wrap labels).tmod 300 = (M : Int)) (hM : M < 300)
    (hk : 60 + K ≤ 64) (hm : 1 ≤ M ∧ M ≤ 257) :
    Calls Tryd.prog 6 #[.int .i64 n, .int .i64 labels] w fun e w' => e = .returned (.bool true) ∧ Below w.heap.size w w' := by
  obtain ⟨i0, hi, hz0, hz1, hz2⟩ := info_parts Tryd.info5
  have hmk := fun wx => run_make_row' (P := Tryd.prog) 48 46 (.int .u32 0) 4 Tryd.underlying48 infoU32 rfl .i64 .i64 M (by omega) (by omega) wx
  have HT := hide hT; have HE := hide hE
  clear hT hE
  go_enter Tryd.func6, Tryd.ntmps6
  go_wp2_with fail
  generalize hB : w.heap.size = B at *
  have HB := hide hB; clear hB
  go_loopw [6, 7] (fun s c wr => ∃ j : Nat, c = .int .i64 j ∧ (j : Int) ≤ 60 + (K : Int) ∧ Code wr (fun _ => True) (inB opD j []) s ∧ Below B w wr ∧ B ≤ wr.heap.size) (fun _ c _ => 60 + K - (intOf c).toNat)
  case atStart => exact ⟨0, rfl, by omega, Code_nil _ _, Below.refl _ _, by have := unhide HB; omega⟩
  case round =>
    obtain ⟨j, rfl, hj, hcode, hbel, hlt⟩ := hrel
    have HC := hide hcode
    obtain ⟨ra, rc, rfl, _⟩ := hcode
    by_cases hjk : (j : Int) < 60 + (K : Int)
    · have g0 := one_alloc wr (.cells #[.int .u8 (opD j), .int .i64 0, .int .u32 0, .int .u32 0, .int .u8 0, .slice ra (inB opD j []).length rc, .slice none 0 0, .slice none 0 0] 50)
      have b0 := box1 wr (.int .u8 (opD j)) (.int .i64 0) (.int .u32 0) (.int .u32 0) (.int .u8 0) (.slice ra (inB opD j []).length rc) (.slice none 0 0) (.slice none 0 0)
      have hn := Code_one (g := fun _ => True) (c := 1) (i := ⟨opD j, 0, 0, 0, 0, inB opD j [], [], []⟩) b0 trivial (by omega) ((unhide HC).below g0) (Code_nil _ _) (Labs_nil _ _)
      have HN := hide hn; have HB2 := hide (hbel.alloc hlt (.cells #[.int .u8 (opD j), .int .i64 0, .int .u32 0, .int .u32 0, .int .u8 0, .slice ra (inB opD j []).length rc, .slice none 0 0, .slice none 0 0] 50)); have HL2 := hide (show B ≤ (wr.alloc (.cells #[.int .u8 (opD j), .int .i64 0, .int .u32 0, .int .u32 0, .int .u8 0, .slice ra (inB opD j []).length rc, .slice none 0 0, .slice none 0 0] 50)).heap.size by simp; omega)
      clear hn g0 b0 hbel hlt HC hj
      generalize hLL : (inB opD j []).length = LL at *
      clear hLL
      unfold opD at HN HB2 HL2
      go_wp2
      go_roundw
      case rel => exact ⟨j + 1, by go_num, by omega, unhide HN, unhide HB2, unhide HL2⟩
      case measure => simp [intOf]; omega
    · obtain rfl : j = 60 + K := by omega
      have hwf := inB_wf opD23 (l := []) (60 + K) Wf_nil
      have hsz := inB_sz (op := opD) (l := []) (60 + K) (Sz_nil _) (by simp)
      have hll := inB_len opD [] (60 + K)
      have hmB := deep_may (60 + K) (by omega)
      rw [show decide (60 + K ≤ 64) = true by simp; omega] at hmB
      have hmT := tbl_may M
      rw [show decide (1 ≤ M ∧ M ≤ 257) = true by simp; omega] at hmT
      simp only [List.length_nil] at hll
      generalize inB opD (60 + K) [] = l at *
      have hb0 : Below w.heap.size w wr := by rw [unhide HB]; exact hbel
      have hEn := encode_any l (unhide HC) ((unhide HT).below hb0) (by omega) hsz hwf
      have HEn := hide hEn; have HMB := hide hmB; have HB0 := hide hb0; have HSz := hide hsz; have HWf := hide hwf; have HLl := hide hll; have HMT := hide hmT
      clear hEn hmB hb0 hsz hwf hll hmT hbel hlt hj hjk
      generalize hLL : l.length = LL at *
      have HLL := hide hLL; clear hLL
      go_wp2_with fail
      refine (unhide HEn).mono ?_
      rintro e w1 ⟨ba, bl, bc, rfl, hb1, hok, hnok⟩
      rw [unhide HMB]
      rw [if_pos rfl, errV_0]
      have HC1 := hide ((unhide HC).below hb1); have HB1 := hide (Below.on (unhide HB0) hb1)
      have HBs := hide (hok (unhide HMB))
      clear hok hnok hb1 HC HB0 HEn
      -- the labels, and the br_table about them
      have gm := one_alloc w1 (.cells (madeCells #[Value.int .u32 0] M) 46)
      have hrw : (w1.alloc (.cells (madeCells #[Value.int .u32 0] M) 46)).heap[w1.heap.size]? = some (.cells (u32s (List.replicate M 0)) 46 (0, 0)) := by rw [heap_alloc_new, made_u32]
      have hlab : Lies (fun _ => True) (List.replicate M (0 : Int)).length (Lab (w1.alloc (.cells (madeCells #[Value.int .u32 0] M) 46)) (List.replicate M 0)) (.slice (some ⟨w1.heap.size, 0, none⟩) M M) := ⟨_, M, by simp, by simp, by simp, fun _ => ⟨w1.heap.size, 0, rfl, trivial, u32s_lab hrw⟩⟩
      have gt := one_alloc (w1.alloc (.cells (madeCells #[Value.int .u32 0] M) 46)) (.cells #[.int .u8 14, .int .i64 0, .int .u32 0, .int .u32 0, .int .u8 0, .slice none 0 0, .slice none 0 0, .slice (some ⟨w1.heap.size, 0, none⟩) M M] 50)
      have bt := box1 (w1.alloc (.cells (madeCells #[Value.int .u32 0] M) 46)) (.int .u8 14) (.int .i64 0) (.int .u32 0) (.int .u32 0) (.int .u8 0) (.slice none 0 0) (.slice none 0 0) (.slice (some ⟨w1.heap.size, 0, none⟩) M M)
      have hsz2 : (w1.alloc (.cells (madeCells #[Value.int .u32 0] M) 46)).heap.size = w1.heap.size + 1 := by simp
      have ht := Code_one (g := fun _ => True) (c := 1) (i := ⟨14, 0, 0, 0, 0, [], [], List.replicate M 0⟩) bt trivial (by omega) (Code_nil _ _) (Code_nil _ _) (Labs.below hlab gt)
      rw [hsz2] at ht
      have hbt := Below.on (unhide HB1) (Below.on gm gt)
      have hEt := encode_any (tbl M) ht ((unhide HT).below hbt) (by simp [tbl]) (tbl_sz M (by omega)) (tbl_wf M)
      have HEt := hide hEt; have HCt := hide ht; have HBt := hide hbt; have HC2 := hide ((unhide HC1).below (Below.on gm gt))
      have HBs2 := hide ((unhide HBs).below (Below.on gm gt))
      clear HBs
      clear hEt ht hbt bt hlab hrw gm gt hsz2 HC1 HB1
      go_wp2_with fail
      generalize (w1.alloc (.cells (madeCells #[Value.int .u32 0] M) 46)).alloc (.cells #[.int .u8 14, .int .i64 0, .int .u32 0, .int .u32 0, .int .u8 0, .slice none 0 0, .slice none 0 0, .slice (some ⟨w1.heap.size, 0, none⟩) M M] 50) = w2 at *
      generalize w1.heap.size + 1 = T1 at *
      refine (unhide HEt).mono ?_
      rintro e w3 ⟨ta, tl, tc, rfl, hb3, tok, tnok⟩
      rw [unhide HMT]
      rw [if_pos rfl, errV_0]
      have HCt3 := hide ((unhide HCt).below hb3); have HC3 := hide ((unhide HC2).below hb3); have HB3 := hide (Below.on (unhide HBt) hb3)
      have HTs := hide (tok (unhide HMT))
      have hbs3 := (unhide HBs2).below hb3
      have hDe := decode_any hbs3 ((unhide HT).below (unhide HB3))
      rw [D_back0 (unhide HMB) (unhide HWf)] at hDe
      have HDe := hide hDe
      clear hbs3 hDe HBs2
      clear tok tnok hb3 HCt HC2 HBt HEt hmk
      have hm1 : (1 : Int) ≤ (M : Int) := by omega
      have hm2 : (M : Int) ≤ 257 := by omega
      have hk2 : (60 : Int) + (K : Int) ≤ 64 := by omega
      go_wp2_with fail
      refine (unhide HDe).mono ?_
      rintro e w4 ⟨v, rfl, ⟨xa, xl, xc, rfl⟩, hb4, hcode, _⟩
      have hc4 := hcode rfl
      simp only at hc4
      rw [show errV (⟨0, (enc l).length + 1, cnt l, (l, 11)⟩ : Out (List Ins × Int)).e = .nilIface from errV_0]
      have HX4 := hide hc4; have HC4 := hide ((unhide HC3).below hb4)
      have hb34 := Below.on (unhide HB3) hb4
      have HB34 := hide hb34; have HCt34 := hide ((unhide HCt3).below hb4)
      have HTs34 := hide ((unhide HTs).below hb4)
      clear hb4 hcode hc4 HDe hb34
      simp only
      go_wp2_with fail
      refine (same_any l l _ _ _ _ _ (unhide HX4) (unhide HC4) (by have := unhide HLl; have := unhide HLL; omega) (unhide HSz) (by have := unhide HLl; have := unhide HLL; omega) (unhide HSz)).mono ?_
      rintro e w5 ⟨rfl, hb5⟩
      rw [same_refl]
      have HB4 := hide (Below.on (unhide HB34) hb5); have HCt4 := hide ((unhide HCt34).below hb5)
      have HTs4 := hide ((unhide HTs34).below hb5)
      clear hb5
      have hTe := decode_any (unhide HTs4) ((unhide HT).below (unhide HB4))
      rw [D_back0 (unhide HMT) (tbl_wf M)] at hTe
      have HTe := hide hTe; clear hTe
      go_wp2_with fail
      refine (unhide HTe).mono ?_
      rintro e w7 ⟨v, rfl, ⟨va, vl, vc, rfl⟩, hb7, hcode, _⟩
      have hc7 := hcode rfl
      simp only at hc7
      rw [show errV (⟨0, (enc (tbl M)).length + 1, cnt (tbl M), (tbl M, 11)⟩ : Out (List Ins × Int)).e = .nilIface from errV_0]
      have HX := hide hc7; have HCt7 := hide ((unhide HCt4).below hb7); have HB7 := hide (Below.on (unhide HB4) hb7)
      clear hb7 hcode hc7 HTe
      simp only
      go_wp2_with fail
      refine (same_any (tbl M) (tbl M) _ _ _ _ _ (unhide HX) (unhide HCt7) (by simp [tbl]) (tbl_sz M (by omega)) (by simp [tbl]) (tbl_sz M (by omega))).mono ?_
      rintro e w8 ⟨rfl, hb8⟩
      rw [same_refl]
      have HB8 := hide (Below.on (unhide HB7) hb8)
      clear hb8
      go_wp2_with fail
      refine (sure_any _ ((unhide HT).below (unhide HB8)) ((unhide HE).below (Nat.le_refl _) (unhide HB8))).mono ?_
      rintro e w9 ⟨rfl, hb9⟩
      have HB9 := hide (Below.on (unhide HB8) hb9)
      clear hb9
      go_wp2
      go_ret
      exact ⟨rfl, unhide HB9⟩

set_option maxRecDepth 100000 in
set_option maxHeartbeats 6400000 in
theorem deep_yn (n labels : Int) (w : World) (hT : Tb w) (hE : ErrT w) (K M : Nat) (eK : (IntKind.u64.wrap n).tmod 8 = (K : Int)) (hK : K < 8) (eM : (IntKind.u64.wrap labels).tmod 300 = (M : Int)) (hM : M < 300)
    (hk : 60 + K ≤ 64) (hm : ¬ (1 ≤ M ∧ M ≤ 257)) :
    Calls Tryd.prog 6 #[.int .i64 n, .int .i64 labels] w fun e w' => e = .returned (.bool true) ∧ Below w.heap.size w w' := by
  obtain ⟨i0, hi, hz0, hz1, hz2⟩ := info_parts Tryd.info5
  have hmk := fun wx => run_make_row' (P := Tryd.prog) 48 46 (.int .u32 0) 4 Tryd.underlying48 infoU32 rfl .i64 .i64 M (by omega) (by omega) wx
  have HT := hide hT; have HE := hide hE
  clear hT hE
  go_enter Tryd.func6, Tryd.ntmps6
  go_wp2_with fail
  generalize hB : w.heap.size = B at *
  have HB := hide hB; clear hB
  go_loopw [6, 7] (fun s c wr => ∃ j : Nat, c = .int .i64 j ∧ (j : Int) ≤ 60 + (K : Int) ∧ Code wr (fun _ => True) (inB opD j []) s ∧ Below B w wr ∧ B ≤ wr.heap.size) (fun _ c _ => 60 + K - (intOf c).toNat)
  case atStart => exact ⟨0, rfl, by omega, Code_nil _ _, Below.refl _ _, by have := unhide HB; omega⟩
  case round =>
    obtain ⟨j, rfl, hj, hcode, hbel, hlt⟩ := hrel
    have HC := hide hcode
    obtain ⟨ra, rc, rfl, _⟩ := hcode
    by_cases hjk : (j : Int) < 60 + (K : Int)
    · have g0 := one_alloc wr (.cells #[.int .u8 (opD j), .int .i64 0, .int .u32 0, .int .u32 0, .int .u8 0, .slice ra (inB opD j []).length rc, .slice none 0 0, .slice none 0 0] 50)
      have b0 := box1 wr (.int .u8 (opD j)) (.int .i64 0) (.int .u32 0) (.int .u32 0) (.int .u8 0) (.slice ra (inB opD j []).length rc) (.slice none 0 0) (.slice none 0 0)
      have hn := Code_one (g := fun _ => True) (c := 1) (i := ⟨opD j, 0, 0, 0, 0, inB opD j [], [], []⟩) b0 trivial (by omega) ((unhide HC).below g0) (Code_nil _ _) (Labs_nil _ _)
      have HN := hide hn; have HB2 := hide (hbel.alloc hlt (.cells #[.int .u8 (opD j), .int .i64 0, .int .u32 0, .int .u32 0, .int .u8 0, .slice ra (inB opD j []).length rc, .slice none 0 0, .slice none 0 0] 50)); have HL2 := hide (show B ≤ (wr.alloc (.cells #[.int .u8 (opD j), .int .i64 0, .int .u32 0, .int .u32 0, .int .u8 0, .slice ra (inB opD j []).length rc, .slice none 0 0, .slice none 0 0] 50)).heap.size by simp; omega)
      clear hn g0 b0 hbel hlt HC hj
      generalize hLL : (inB opD j []).length = LL at *
      clear hLL
      unfold opD at HN HB2 HL2
      go_wp2
      go_roundw
      case rel => exact ⟨j + 1, by go_num, by omega, unhide HN, unhide HB2, unhide HL2⟩
      case measure => simp [intOf]; omega
    · obtain rfl : j = 60 + K := by omega
      have hwf := inB_wf opD23 (l := []) (60 + K) Wf_nil
      have hsz := inB_sz (op := opD) (l := []) (60 + K) (Sz_nil _) (by simp)
      have hll := inB_len opD [] (60 + K)
      have hmB := deep_may (60 + K) (by omega)
      rw [show decide (60 + K ≤ 64) = true by simp; omega] at hmB
      have hmT := tbl_may M
      rw [show decide (1 ≤ M ∧ M ≤ 257) = false by simp; omega] at hmT
      simp only [List.length_nil] at hll
      generalize inB opD (60 + K) [] = l at *
      have hb0 : Below w.heap.size w wr := by rw [unhide HB]; exact hbel
      have hEn := encode_any l (unhide HC) ((unhide HT).below hb0) (by omega) hsz hwf
      have HEn := hide hEn; have HMB := hide hmB; have HB0 := hide hb0; have HSz := hide hsz; have HWf := hide hwf; have HLl := hide hll; have HMT := hide hmT
      clear hEn hmB hb0 hsz hwf hll hmT hbel hlt hj hjk
      generalize hLL : l.length = LL at *
      have HLL := hide hLL; clear hLL
      go_wp2_with fail
      refine (unhide HEn).mono ?_
      rintro e w1 ⟨ba, bl, bc, rfl, hb1, hok, hnok⟩
      rw [unhide HMB]
      rw [if_pos rfl, errV_0]
      have HC1 := hide ((unhide HC).below hb1); have HB1 := hide (Below.on (unhide HB0) hb1)
      have HBs := hide (hok (unhide HMB))
      clear hok hnok hb1 HC HB0 HEn
      -- the labels, and the br_table about them
      have gm := one_alloc w1 (.cells (madeCells #[Value.int .u32 0] M) 46)
      have hrw : (w1.alloc (.cells (madeCells #[Value.int .u32 0] M) 46)).heap[w1.heap.size]? = some (.cells (u32s (List.replicate M 0)) 46 (0, 0)) := by rw [heap_alloc_new, made_u32]
      have hlab : Lies (fun _ => True) (List.replicate M (0 : Int)).length (Lab (w1.alloc (.cells (madeCells #[Value.int .u32 0] M) 46)) (List.replicate M 0)) (.slice (some ⟨w1.heap.size, 0, none⟩) M M) := ⟨_, M, by simp, by simp, by simp, fun _ => ⟨w1.heap.size, 0, rfl, trivial, u32s_lab hrw⟩⟩
      have gt := one_alloc (w1.alloc (.cells (madeCells #[Value.int .u32 0] M) 46)) (.cells #[.int .u8 14, .int .i64 0, .int .u32 0, .int .u32 0, .int .u8 0, .slice none 0 0, .slice none 0 0, .slice (some ⟨w1.heap.size, 0, none⟩) M M] 50)
      have bt := box1 (w1.alloc (.cells (madeCells #[Value.int .u32 0] M) 46)) (.int .u8 14) (.int .i64 0) (.int .u32 0) (.int .u32 0) (.int .u8 0) (.slice none 0 0) (.slice none 0 0) (.slice (some ⟨w1.heap.size, 0, none⟩) M M)
      have hsz2 : (w1.alloc (.cells (madeCells #[Value.int .u32 0] M) 46)).heap.size = w1.heap.size + 1 := by simp
      have ht := Code_one (g := fun _ => True) (c := 1) (i := ⟨14, 0, 0, 0, 0, [], [], List.replicate M 0⟩) bt trivial (by omega) (Code_nil _ _) (Code_nil _ _) (Labs.below hlab gt)
      rw [hsz2] at ht
      have hbt := Below.on (unhide HB1) (Below.on gm gt)
      have hEt := encode_any (tbl M) ht ((unhide HT).below hbt) (by simp [tbl]) (tbl_sz M (by omega)) (tbl_wf M)
      have HEt := hide hEt; have HCt := hide ht; have HBt := hide hbt; have HC2 := hide ((unhide HC1).below (Below.on gm gt))
      have HBs2 := hide ((unhide HBs).below (Below.on gm gt))
      clear HBs
      clear hEt ht hbt bt hlab hrw gm gt hsz2 HC1 HB1
      go_wp2_with fail
      generalize (w1.alloc (.cells (madeCells #[Value.int .u32 0] M) 46)).alloc (.cells #[.int .u8 14, .int .i64 0, .int .u32 0, .int .u32 0, .int .u8 0, .slice none 0 0, .slice none 0 0, .slice (some ⟨w1.heap.size, 0, none⟩) M M] 50) = w2 at *
      generalize w1.heap.size + 1 = T1 at *
      refine (unhide HEt).mono ?_
      rintro e w3 ⟨ta, tl, tc, rfl, hb3, tok, tnok⟩
      rw [unhide HMT]
      rw [if_neg (by decide), errV_1]
      have HCt3 := hide ((unhide HCt).below hb3); have HC3 := hide ((unhide HC2).below hb3); have HB3 := hide (Below.on (unhide HBt) hb3)
      obtain ⟨rfl, rfl, rfl⟩ := tnok (unhide HMT)
      have hbs3 := (unhide HBs2).below hb3
      have hDe := decode_any hbs3 ((unhide HT).below (unhide HB3))
      rw [D_back0 (unhide HMB) (unhide HWf)] at hDe
      have HDe := hide hDe
      clear hbs3 hDe HBs2
      clear tok tnok hb3 HCt HC2 HBt HEt hmk
      have hmm : (M : Int) < 1 ∨ 257 < (M : Int) := by omega
      rcases hmm with hmm | hmm
      all_goals
        have hk2 : (60 : Int) + (K : Int) ≤ 64 := by omega
        go_wp2_with fail
        refine (unhide HDe).mono ?_
        rintro e w4 ⟨v, rfl, ⟨xa, xl, xc, rfl⟩, hb4, hcode, _⟩
        have hc4 := hcode rfl
        simp only at hc4
        rw [show errV (⟨0, (enc l).length + 1, cnt l, (l, 11)⟩ : Out (List Ins × Int)).e = .nilIface from errV_0]
        have HX4 := hide hc4; have HC4 := hide ((unhide HC3).below hb4)
        have hb34 := Below.on (unhide HB3) hb4
        have HB34 := hide hb34; have HCt34 := hide ((unhide HCt3).below hb4)
        clear hb4 hcode hc4 HDe hb34
        simp only
        go_wp2_with fail
        refine (same_any l l _ _ _ _ _ (unhide HX4) (unhide HC4) (by have := unhide HLl; have := unhide HLL; omega) (unhide HSz) (by have := unhide HLl; have := unhide HLL; omega) (unhide HSz)).mono ?_
        rintro e w5 ⟨rfl, hb5⟩
        rw [same_refl]
        have HB4 := hide (Below.on (unhide HB34) hb5); have HCt4 := hide ((unhide HCt34).below hb5)
        clear hb5
        have HB8 := HB4
        go_wp2_with fail
        refine (sure_any _ ((unhide HT).below (unhide HB8)) ((unhide HE).below (Nat.le_refl _) (unhide HB8))).mono ?_
        rintro e w9 ⟨rfl, hb9⟩
        have HB9 := hide (Below.on (unhide HB8) hb9)
        clear hb9
        go_wp2
        go_ret
        exact ⟨rfl, unhide HB9⟩

set_option maxRecDepth 100000 in
set_option maxHeartbeats 6400000 in
theorem deep_ny (n labels : Int) (w : World) (hT : Tb w) (hE : ErrT w) (K M : Nat) (eK : (IntKind.u64.wrap n).tmod 8 = (K : Int)) (hK : K < 8) (eM : (IntKind.u64.wrap labels).tmod 300 = (M : Int)) (hM : M < 300)
    (hk : 64 < 60 + K) (hm : 1 ≤ M ∧ M ≤ 257) :
    Calls Tryd.prog 6 #[.int .i64 n, .int .i64 labels] w fun e w' => e = .returned (.bool true) ∧ Below w.heap.size w w' := by
  obtain ⟨i0, hi, hz0, hz1, hz2⟩ := info_parts Tryd.info5
  have hmk := fun wx => run_make_row' (P := Tryd.prog) 48 46 (.int .u32 0) 4 Tryd.underlying48 infoU32 rfl .i64 .i64 M (by omega) (by omega) wx
  have HT := hide hT; have HE := hide hE
  clear hT hE
  go_enter Tryd.func6, Tryd.ntmps6
  go_wp2_with fail
  generalize hB : w.heap.size = B at *
  have HB := hide hB; clear hB
  go_loopw [6, 7] (fun s c wr => ∃ j : Nat, c = .int .i64 j ∧ (j : Int) ≤ 60 + (K : Int) ∧ Code wr (fun _ => True) (inB opD j []) s ∧ Below B w wr ∧ B ≤ wr.heap.size) (fun _ c _ => 60 + K - (intOf c).toNat)
  case atStart => exact ⟨0, rfl, by omega, Code_nil _ _, Below.refl _ _, by have := unhide HB; omega⟩
  case round =>
    obtain ⟨j, rfl, hj, hcode, hbel, hlt⟩ := hrel
    have HC := hide hcode
    obtain ⟨ra, rc, rfl, _⟩ := hcode
    by_cases hjk : (j : Int) < 60 + (K : Int)
    · have g0 := one_alloc wr (.cells #[.int .u8 (opD j), .int .i64 0, .int .u32 0, .int .u32 0, .int .u8 0, .slice ra (inB opD j []).length rc, .slice none 0 0, .slice none 0 0] 50)
      have b0 := box1 wr (.int .u8 (opD j)) (.int .i64 0) (.int .u32 0) (.int .u32 0) (.int .u8 0) (.slice ra (inB opD j []).length rc) (.slice none 0 0) (.slice none 0 0)
      have hn := Code_one (g := fun _ => True) (c := 1) (i := ⟨opD j, 0, 0, 0, 0, inB opD j [], [], []⟩) b0 trivial (by omega) ((unhide HC).below g0) (Code_nil _ _) (Labs_nil _ _)
      have HN := hide hn; have HB2 := hide (hbel.alloc hlt (.cells #[.int .u8 (opD j), .int .i64 0, .int .u32 0, .int .u32 0, .int .u8 0, .slice ra (inB opD j []).length rc, .slice none 0 0, .slice none 0 0] 50)); have HL2 := hide (show B ≤ (wr.alloc (.cells #[.int .u8 (opD j), .int .i64 0, .int .u32 0, .int .u32 0, .int .u8 0, .slice ra (inB opD j []).length rc, .slice none 0 0, .slice none 0 0] 50)).heap.size by simp; omega)
      clear hn g0 b0 hbel hlt HC hj
      generalize hLL : (inB opD j []).length = LL at *
      clear hLL
      unfold opD at HN HB2 HL2
      go_wp2
      go_roundw
      case rel => exact ⟨j + 1, by go_num, by omega, unhide HN, unhide HB2, unhide HL2⟩
      case measure => simp [intOf]; omega
    · obtain rfl : j = 60 + K := by omega
      have hwf := inB_wf opD23 (l := []) (60 + K) Wf_nil
      have hsz := inB_sz (op := opD) (l := []) (60 + K) (Sz_nil _) (by simp)
      have hll := inB_len opD [] (60 + K)
      have hmB := deep_may (60 + K) (by omega)
      rw [show decide (60 + K ≤ 64) = false by simp; omega] at hmB
      have hmT := tbl_may M
      rw [show decide (1 ≤ M ∧ M ≤ 257) = true by simp; omega] at hmT
      simp only [List.length_nil] at hll
      generalize inB opD (60 + K) [] = l at *
      have hb0 : Below w.heap.size w wr := by rw [unhide HB]; exact hbel
      have hEn := encode_any l (unhide HC) ((unhide HT).below hb0) (by omega) hsz hwf
      have HEn := hide hEn; have HMB := hide hmB; have HB0 := hide hb0; have HSz := hide hsz; have HWf := hide hwf; have HLl := hide hll; have HMT := hide hmT
      clear hEn hmB hb0 hsz hwf hll hmT hbel hlt hj hjk
      generalize hLL : l.length = LL at *
      have HLL := hide hLL; clear hLL
      go_wp2_with fail
      refine (unhide HEn).mono ?_
      rintro e w1 ⟨ba, bl, bc, rfl, hb1, hok, hnok⟩
      rw [unhide HMB]
      rw [if_neg (by decide), errV_1]
      have HC1 := hide ((unhide HC).below hb1); have HB1 := hide (Below.on (unhide HB0) hb1)
      clear hok hnok hb1 HC HB0 HEn
      -- the labels, and the br_table about them
      have gm := one_alloc w1 (.cells (madeCells #[Value.int .u32 0] M) 46)
      have hrw : (w1.alloc (.cells (madeCells #[Value.int .u32 0] M) 46)).heap[w1.heap.size]? = some (.cells (u32s (List.replicate M 0)) 46 (0, 0)) := by rw [heap_alloc_new, made_u32]
      have hlab : Lies (fun _ => True) (List.replicate M (0 : Int)).length (Lab (w1.alloc (.cells (madeCells #[Value.int .u32 0] M) 46)) (List.replicate M 0)) (.slice (some ⟨w1.heap.size, 0, none⟩) M M) := ⟨_, M, by simp, by simp, by simp, fun _ => ⟨w1.heap.size, 0, rfl, trivial, u32s_lab hrw⟩⟩
      have gt := one_alloc (w1.alloc (.cells (madeCells #[Value.int .u32 0] M) 46)) (.cells #[.int .u8 14, .int .i64 0, .int .u32 0, .int .u32 0, .int .u8 0, .slice none 0 0, .slice none 0 0, .slice (some ⟨w1.heap.size, 0, none⟩) M M] 50)
      have bt := box1 (w1.alloc (.cells (madeCells #[Value.int .u32 0] M) 46)) (.int .u8 14) (.int .i64 0) (.int .u32 0) (.int .u32 0) (.int .u8 0) (.slice none 0 0) (.slice none 0 0) (.slice (some ⟨w1.heap.size, 0, none⟩) M M)
      have hsz2 : (w1.alloc (.cells (madeCells #[Value.int .u32 0] M) 46)).heap.size = w1.heap.size + 1 := by simp
      have ht := Code_one (g := fun _ => True) (c := 1) (i := ⟨14, 0, 0, 0, 0, [], [], List.replicate M 0⟩) bt trivial (by omega) (Code_nil _ _) (Code_nil _ _) (Labs.below hlab gt)
      rw [hsz2] at ht
      have hbt := Below.on (unhide HB1) (Below.on gm gt)
      have hEt := encode_any (tbl M) ht ((unhide HT).below hbt) (by simp [tbl]) (tbl_sz M (by omega)) (tbl_wf M)
      have HEt := hide hEt; have HCt := hide ht; have HBt := hide hbt; have HC2 := hide ((unhide HC1).below (Below.on gm gt))
      clear hEt ht hbt bt hlab hrw gm gt hsz2 HC1 HB1
      go_wp2_with fail
      generalize (w1.alloc (.cells (madeCells #[Value.int .u32 0] M) 46)).alloc (.cells #[.int .u8 14, .int .i64 0, .int .u32 0, .int .u32 0, .int .u8 0, .slice none 0 0, .slice none 0 0, .slice (some ⟨w1.heap.size, 0, none⟩) M M] 50) = w2 at *
      generalize w1.heap.size + 1 = T1 at *
      refine (unhide HEt).mono ?_
      rintro e w3 ⟨ta, tl, tc, rfl, hb3, tok, tnok⟩
      rw [unhide HMT]
      rw [if_pos rfl, errV_0]
      have HCt3 := hide ((unhide HCt).below hb3); have HC3 := hide ((unhide HC2).below hb3); have HB3 := hide (Below.on (unhide HBt) hb3)
      have HTs := hide (tok (unhide HMT))
      clear tok tnok hb3 HCt HC2 HBt HEt hmk
      have hm1 : (1 : Int) ≤ (M : Int) := by omega
      have hm2 : (M : Int) ≤ 257 := by omega
      have hk2 : ¬ (60 : Int) + (K : Int) ≤ 64 := by omega
      have HT3 := hide ((unhide HT).below (unhide HB3)); have HE3 := hide ((unhide HE).below (Nat.le_refl _) (unhide HB3))
      go_wp2_with fail
      generalize hB3 : w3.heap.size = B3 at *
      have HB3s := hide hB3; clear hB3
      go_loopw [17, 18] (fun s c wr => ∃ j : Nat, c = .int .i64 j ∧ (j : Int) ≤ 60 + (K : Int) ∧ wr.ownsRow B3 5 1 s (2 * j) ((dB j).map (Value.int .u8)) ∧ Below B3 w3 wr ∧ B3 ≤ wr.heap.size) (fun _ c _ => 60 + K - (intOf c).toNat)
      case atStart => exact ⟨0, rfl, by omega, World.ownsRow_nil _ _ _ _, Below.refl _ _, by have := unhide HB3s; omega⟩
      case round =>
        obtain ⟨j, rfl, hj, hown, hbel, hlt⟩ := hrel
        have hsh : ∃ a n cp, u17 = .slice a n cp := by rcases hown.2 with ⟨rfl, _⟩ | ⟨g, cap, cur, rfl, _⟩; exact ⟨_, _, _, rfl⟩; exact ⟨_, _, _, rfl⟩
        obtain ⟨da, dn, dc, rfl⟩ := hsh
        by_cases hjk : (j : Int) < 60 + (K : Int)
        · have hown2 := hown.alloc (.cells #[.int .u8 2, .int .u8 64] 5)
          have HO := hide hown2; have HBe := hide hbel; have HLt := hide hlt; have HLo := hide hown.lt
          clear hown hown2 hbel hlt hj
          go_wp2_with (at_builtin; refine wpList_append_own _ rfl (.tmp 98) (.tmp 99) 27 rfl B3 5 i0 (.int .u8 0) 1 1 Tryd.underlying27 hi hz0 hz1 hz2 rfl (by decide) (.slice da dn dc) (2 * j) ((dB j).map (Value.int .u8)) rfl (unhide HO) ⟨wr.heap.size, 0, none⟩ 2 2 [.int .u8 2, .int .u8 64] rfl rfl ?c1 ?c2 ?c3 ?c4 ?c5 ?_)
          case c1 =>
            intro q u hu
            rcases q with _ | _ | q
            · simp at hu; subst hu; simp [Addr.add]
            · simp at hu; subst hu; simp [Addr.add]
            · simp at hu
          case c2 => intro u hu; simp at hu; rcases hu with rfl | rfl <;> rfl
          case c3 => unfold maxLen; omega
          case c4 => omega
          case c5 => have := unhide HLt; simp; omega
          intro v' w6 hown6 hgrow _
          have hb6 : Below B3 w3 w6 := ((unhide HBe).alloc (unhide HLt) _).grown hgrow (by have := unhide HLt; simp; omega) (fun k hk => (unhide HLo k hk).1)
          have ho6 : w6.ownsRow B3 5 1 v' (2 * (j + 1)) ((dB (j + 1)).map (Value.int .u8)) := by rw [dB_succ, List.map_append, show 2 * (j + 1) = 2 * j + 2 by omega]; exact hown6
          have HO6 := hide ho6; have HB6 := hide hb6; have HL6 := hide (show B3 ≤ w6.heap.size by have := hgrow.size; have := unhide HLt; simp at *; omega)
          clear hown6 hgrow hb6 ho6
          go_wp2
          go_roundw
          case rel => exact ⟨j + 1, by go_num, by omega, unhide HO6, unhide HB6, unhide HL6⟩
          case measure => simp [intOf]; omega
        · obtain rfl : j = 60 + K := by omega
          have HO := hide (show wr.ownsRow B3 5 1 (.slice da dn dc) (2 * (60 + K) + 0) (rowE (60 + K) 0) by simpa [rowE] using hown); have HBe := hide hbel; have HLt := hide hlt
          clear hown hbel hlt hj hjk
          rw [show (((60 + K : Nat)) : Int) = 60 + (K : Int) by omega]
          go_wp2_with fail
          go_loopw [17, 19] (fun s c wr => ∃ q : Nat, c = .int .i64 q ∧ (q : Int) ≤ 61 + (K : Int) ∧ wr.ownsRow B3 5 1 s (2 * (60 + K) + q) (rowE (60 + K) q) ∧ Below B3 w3 wr ∧ B3 ≤ wr.heap.size) (fun _ c _ => 61 + K - (intOf c).toNat)
          case atStart => exact ⟨0, rfl, by omega, unhide HO, unhide HBe, unhide HLt⟩
          case round =>
            clear HO HBe HLt
            obtain ⟨q, rfl, hq, hown, hbel, hlt⟩ := hrel
            have hsh : ∃ a n cp, u17 = .slice a n cp := by rcases hown.2 with ⟨rfl, _⟩ | ⟨g, cap, cur, rfl, _⟩; exact ⟨_, _, _, rfl⟩; exact ⟨_, _, _, rfl⟩
            obtain ⟨da, dn, dc, rfl⟩ := hsh
            by_cases hqk : (q : Int) ≤ 60 + (K : Int)
            · have hown2 := hown.alloc (.cells #[.int .u8 11] 5)
              have HO := hide hown2; have HBe := hide hbel; have HLt := hide hlt; have HLo := hide hown.lt
              clear hown hown2 hbel hlt hq
              go_wp2_with (at_builtin; refine wpList_append_own _ rfl (.tmp 106) (.tmp 107) 27 rfl B3 5 i0 (.int .u8 0) 1 1 Tryd.underlying27 hi hz0 hz1 hz2 rfl (by decide) (.slice da dn dc) (2 * (60 + K) + q) (rowE (60 + K) q) rfl (unhide HO) ⟨wr.heap.size, 0, none⟩ 1 1 [.int .u8 11] rfl rfl ?c1 ?c2 ?c3 ?c4 ?c5 ?_)
              case c1 => exact cell_one_new _ _ _
              case c2 => intro u hu; simp at hu; subst hu; rfl
              case c3 => unfold maxLen; omega
              case c4 => omega
              case c5 => have := unhide HLt; simp; omega
              intro v' w6 hown6 hgrow _
              have hb6 : Below B3 w3 w6 := ((unhide HBe).alloc (unhide HLt) _).grown hgrow (by have := unhide HLt; simp; omega) (fun k hk => (unhide HLo k hk).1)
              have ho6 : w6.ownsRow B3 5 1 v' (2 * (60 + K) + (q + 1)) (rowE (60 + K) (q + 1)) := by rw [rowE_succ]; exact hown6
              have HO6 := hide ho6; have HB6 := hide hb6; have HL6 := hide (show B3 ≤ w6.heap.size by have := hgrow.size; have := unhide HLt; simp at *; omega)
              clear hown6 hgrow hb6 ho6
              go_wp2
              go_roundw
              case rel => exact ⟨q + 1, by go_num, by omega, unhide HO6, unhide HB6, unhide HL6⟩
              case measure => simp [intOf]; omega
            · obtain rfl : q = 61 + K := by omega
              have hlen : (dB (60 + K) ++ List.replicate (61 + K) 11).length = 2 * (60 + K) + (61 + K) := by rw [List.length_append, dB_len]; simp
              obtain ⟨gg, gc, hv, hrow, hcap, _⟩ := own_shape hown (by omega) (by intro z hz; rcases List.mem_append.1 hz with hz | hz; exact dB_bytes _ z hz; obtain rfl := (List.mem_replicate.1 hz).2; decide)
              have hb3 : Below w3.heap.size w3 wr := by rw [unhide HB3s]; exact hbel
              have hDe := decode_any (cap := gc) ⟨hrow, by simp, hcap, by omega⟩ ((unhide HT3).below hb3)
              have hdd := deep_D (60 + K) (61 + K) (by omega)
              rw [← hv] at hDe
              generalize D (dB (60 + K) ++ List.replicate (61 + K) 11) 0 0 0 false = R at *
              have HDe := hide hDe; have HDD := hide hdd; have HBB := hide hb3
              clear hDe hdd hb3 hv hrow hcap hlen hown hbel hlt hq hqk
              go_wp2_with fail
              refine (unhide HDe).mono ?_
              rintro e w7 ⟨v, rfl, ⟨va, vl, vc, rfl⟩, hb7, _, _⟩
              rw [(unhide HDD).1, (unhide HDD).2, errV_9]
              have hb37 := Below.on (unhide HBB) hb7
              have HB37 := hide hb37
              clear hb7 hb37 HDe
              go_wp2_with fail
              refine (num_hit 9 _ ((unhide HE3).below (Nat.le_refl _) (unhide HB37))).mono ?_
              rintro e w8 ⟨rfl, hb8⟩
              have hb38 := Below.on (unhide HB37) hb8
              have HB4 := hide (Below.on (unhide HB3) hb38); have HCt4 := hide ((unhide HCt3).below hb38)
              have HTs4 := hide ((unhide HTs).below hb38)
              clear hb8 hb38 HB37
              have hTe := decode_any (unhide HTs4) ((unhide HT).below (unhide HB4))
              rw [D_back0 (unhide HMT) (tbl_wf M)] at hTe
              have HTe := hide hTe; clear hTe
              go_wp2_with fail
              refine (unhide HTe).mono ?_
              rintro e w7 ⟨v, rfl, ⟨va, vl, vc, rfl⟩, hb7, hcode, _⟩
              have hc7 := hcode rfl
              simp only at hc7
              rw [show errV (⟨0, (enc (tbl M)).length + 1, cnt (tbl M), (tbl M, 11)⟩ : Out (List Ins × Int)).e = .nilIface from errV_0]
              have HX := hide hc7; have HCt7 := hide ((unhide HCt4).below hb7); have HB7 := hide (Below.on (unhide HB4) hb7)
              clear hb7 hcode hc7 HTe
              simp only
              go_wp2_with fail
              refine (same_any (tbl M) (tbl M) _ _ _ _ _ (unhide HX) (unhide HCt7) (by simp [tbl]) (tbl_sz M (by omega)) (by simp [tbl]) (tbl_sz M (by omega))).mono ?_
              rintro e w8 ⟨rfl, hb8⟩
              rw [same_refl]
              have HB8 := hide (Below.on (unhide HB7) hb8)
              clear hb8
              go_wp2_with fail
              refine (sure_any _ ((unhide HT).below (unhide HB8)) ((unhide HE).below (Nat.le_refl _) (unhide HB8))).mono ?_
              rintro e w9 ⟨rfl, hb9⟩
              have HB9 := hide (Below.on (unhide HB8) hb9)
              clear hb9
              go_wp2
              go_ret
              exact ⟨rfl, unhide HB9⟩

set_option maxRecDepth 100000 in
set_option maxHeartbeats 6400000 in
theorem deep_nn (n labels : Int) (w : World) (hT : Tb w) (hE : ErrT w) (K M : Nat) (eK : (IntKind.u64.wrap n).tmod 8 = (K : Int)) (hK : K < 8) (eM : (IntKind.u64.wrap labels).tmod 300 = (M : Int)) (hM : M < 300)
    (hk : 64 < 60 + K) (hm : ¬ (1 ≤ M ∧ M ≤ 257)) :
    Calls Tryd.prog 6 #[.int .i64 n, .int .i64 labels] w fun e w' => e = .returned (.bool true) ∧ Below w.heap.size w w' := by
  obtain ⟨i0, hi, hz0, hz1, hz2⟩ := info_parts Tryd.info5
  have hmk := fun wx => run_make_row' (P := Tryd.prog) 48 46 (.int .u32 0) 4 Tryd.underlying48 infoU32 rfl .i64 .i64 M (by omega) (by omega) wx
  have HT := hide hT; have HE := hide hE
  clear hT hE
  go_enter Tryd.func6, Tryd.ntmps6
  go_wp2_with fail
  generalize hB : w.heap.size = B at *
  have HB := hide hB; clear hB
  go_loopw [6, 7] (fun s c wr => ∃ j : Nat, c = .int .i64 j ∧ (j : Int) ≤ 60 + (K : Int) ∧ Code wr (fun _ => True) (inB opD j []) s ∧ Below B w wr ∧ B ≤ wr.heap.size) (fun _ c _ => 60 + K - (intOf c).toNat)
  case atStart => exact ⟨0, rfl, by omega, Code_nil _ _, Below.refl _ _, by have := unhide HB; omega⟩
  case round =>
    obtain ⟨j, rfl, hj, hcode, hbel, hlt⟩ := hrel
    have HC := hide hcode
    obtain ⟨ra, rc, rfl, _⟩ := hcode
    by_cases hjk : (j : Int) < 60 + (K : Int)
    · have g0 := one_alloc wr (.cells #[.int .u8 (opD j), .int .i64 0, .int .u32 0, .int .u32 0, .int .u8 0, .slice ra (inB opD j []).length rc, .slice none 0 0, .slice none 0 0] 50)
      have b0 := box1 wr (.int .u8 (opD j)) (.int .i64 0) (.int .u32 0) (.int .u32 0) (.int .u8 0) (.slice ra (inB opD j []).length rc) (.slice none 0 0) (.slice none 0 0)
      have hn := Code_one (g := fun _ => True) (c := 1) (i := ⟨opD j, 0, 0, 0, 0, inB opD j [], [], []⟩) b0 trivial (by omega) ((unhide HC).below g0) (Code_nil _ _) (Labs_nil _ _)
      have HN := hide hn; have HB2 := hide (hbel.alloc hlt (.cells #[.int .u8 (opD j), .int .i64 0, .int .u32 0, .int .u32 0, .int .u8 0, .slice ra (inB opD j []).length rc, .slice none 0 0, .slice none 0 0] 50)); have HL2 := hide (show B ≤ (wr.alloc (.cells #[.int .u8 (opD j), .int .i64 0, .int .u32 0, .int .u32 0, .int .u8 0, .slice ra (inB opD j []).length rc, .slice none 0 0, .slice none 0 0] 50)).heap.size by simp; omega)
      clear hn g0 b0 hbel hlt HC hj
      generalize hLL : (inB opD j []).length = LL at *
      clear hLL
      unfold opD at HN HB2 HL2
      go_wp2
      go_roundw
      case rel => exact ⟨j + 1, by go_num, by omega, unhide HN, unhide HB2, unhide HL2⟩
      case measure => simp [intOf]; omega
    · obtain rfl : j = 60 + K := by omega
      have hwf := inB_wf opD23 (l := []) (60 + K) Wf_nil
      have hsz := inB_sz (op := opD) (l := []) (60 + K) (Sz_nil _) (by simp)
      have hll := inB_len opD [] (60 + K)
      have hmB := deep_may (60 + K) (by omega)
      rw [show decide (60 + K ≤ 64) = false by simp; omega] at hmB
      have hmT := tbl_may M
      rw [show decide (1 ≤ M ∧ M ≤ 257) = false by simp; omega] at hmT
      simp only [List.length_nil] at hll
      generalize inB opD (60 + K) [] = l at *
      have hb0 : Below w.heap.size w wr := by rw [unhide HB]; exact hbel
      have hEn := encode_any l (unhide HC) ((unhide HT).below hb0) (by omega) hsz hwf
      have HEn := hide hEn; have HMB := hide hmB; have HB0 := hide hb0; have HSz := hide hsz; have HWf := hide hwf; have HLl := hide hll; have HMT := hide hmT
      clear hEn hmB hb0 hsz hwf hll hmT hbel hlt hj hjk
      generalize hLL : l.length = LL at *
      have HLL := hide hLL; clear hLL
      go_wp2_with fail
      refine (unhide HEn).mono ?_
      rintro e w1 ⟨ba, bl, bc, rfl, hb1, hok, hnok⟩
      rw [unhide HMB]
      rw [if_neg (by decide), errV_1]
      have HC1 := hide ((unhide HC).below hb1); have HB1 := hide (Below.on (unhide HB0) hb1)
      clear hok hnok hb1 HC HB0 HEn
      -- the labels, and the br_table about them
      have gm := one_alloc w1 (.cells (madeCells #[Value.int .u32 0] M) 46)
      have hrw : (w1.alloc (.cells (madeCells #[Value.int .u32 0] M) 46)).heap[w1.heap.size]? = some (.cells (u32s (List.replicate M 0)) 46 (0, 0)) := by rw [heap_alloc_new, made_u32]
      have hlab : Lies (fun _ => True) (List.replicate M (0 : Int)).length (Lab (w1.alloc (.cells (madeCells #[Value.int .u32 0] M) 46)) (List.replicate M 0)) (.slice (some ⟨w1.heap.size, 0, none⟩) M M) := ⟨_, M, by simp, by simp, by simp, fun _ => ⟨w1.heap.size, 0, rfl, trivial, u32s_lab hrw⟩⟩
      have gt := one_alloc (w1.alloc (.cells (madeCells #[Value.int .u32 0] M) 46)) (.cells #[.int .u8 14, .int .i64 0, .int .u32 0, .int .u32 0, .int .u8 0, .slice none 0 0, .slice none 0 0, .slice (some ⟨w1.heap.size, 0, none⟩) M M] 50)
      have bt := box1 (w1.alloc (.cells (madeCells #[Value.int .u32 0] M) 46)) (.int .u8 14) (.int .i64 0) (.int .u32 0) (.int .u32 0) (.int .u8 0) (.slice none 0 0) (.slice none 0 0) (.slice (some ⟨w1.heap.size, 0, none⟩) M M)
      have hsz2 : (w1.alloc (.cells (madeCells #[Value.int .u32 0] M) 46)).heap.size = w1.heap.size + 1 := by simp
      have ht := Code_one (g := fun _ => True) (c := 1) (i := ⟨14, 0, 0, 0, 0, [], [], List.replicate M 0⟩) bt trivial (by omega) (Code_nil _ _) (Code_nil _ _) (Labs.below hlab gt)
      rw [hsz2] at ht
      have hbt := Below.on (unhide HB1) (Below.on gm gt)
      have hEt := encode_any (tbl M) ht ((unhide HT).below hbt) (by simp [tbl]) (tbl_sz M (by omega)) (tbl_wf M)
      have HEt := hide hEt; have HCt := hide ht; have HBt := hide hbt; have HC2 := hide ((unhide HC1).below (Below.on gm gt))
      clear hEt ht hbt bt hlab hrw gm gt hsz2 HC1 HB1
      go_wp2_with fail
      generalize (w1.alloc (.cells (madeCells #[Value.int .u32 0] M) 46)).alloc (.cells #[.int .u8 14, .int .i64 0, .int .u32 0, .int .u32 0, .int .u8 0, .slice none 0 0, .slice none 0 0, .slice (some ⟨w1.heap.size, 0, none⟩) M M] 50) = w2 at *
      generalize w1.heap.size + 1 = T1 at *
      refine (unhide HEt).mono ?_
      rintro e w3 ⟨ta, tl, tc, rfl, hb3, tok, tnok⟩
      rw [unhide HMT]
      rw [if_neg (by decide), errV_1]
      have HCt3 := hide ((unhide HCt).below hb3); have HC3 := hide ((unhide HC2).below hb3); have HB3 := hide (Below.on (unhide HBt) hb3)
      obtain ⟨rfl, rfl, rfl⟩ := tnok (unhide HMT)
      clear tok tnok hb3 HCt HC2 HBt HEt hmk
      have hmm : (M : Int) < 1 ∨ 257 < (M : Int) := by omega
      rcases hmm with hmm | hmm
      all_goals
        have hk2 : ¬ (60 : Int) + (K : Int) ≤ 64 := by omega
        have HT3 := hide ((unhide HT).below (unhide HB3)); have HE3 := hide ((unhide HE).below (Nat.le_refl _) (unhide HB3))
        go_wp2_with fail
        generalize hB3 : w3.heap.size = B3 at *
        have HB3s := hide hB3; clear hB3
        go_loopw [17, 18] (fun s c wr => ∃ j : Nat, c = .int .i64 j ∧ (j : Int) ≤ 60 + (K : Int) ∧ wr.ownsRow B3 5 1 s (2 * j) ((dB j).map (Value.int .u8)) ∧ Below B3 w3 wr ∧ B3 ≤ wr.heap.size) (fun _ c _ => 60 + K - (intOf c).toNat)
        case atStart => exact ⟨0, rfl, by omega, World.ownsRow_nil _ _ _ _, Below.refl _ _, by have := unhide HB3s; omega⟩
        case round =>
          obtain ⟨j, rfl, hj, hown, hbel, hlt⟩ := hrel
          have hsh : ∃ a n cp, u17 = .slice a n cp := by rcases hown.2 with ⟨rfl, _⟩ | ⟨g, cap, cur, rfl, _⟩; exact ⟨_, _, _, rfl⟩; exact ⟨_, _, _, rfl⟩
          obtain ⟨da, dn, dc, rfl⟩ := hsh
          by_cases hjk : (j : Int) < 60 + (K : Int)
          · have hown2 := hown.alloc (.cells #[.int .u8 2, .int .u8 64] 5)
            have HO := hide hown2; have HBe := hide hbel; have HLt := hide hlt; have HLo := hide hown.lt
            clear hown hown2 hbel hlt hj
            go_wp2_with (at_builtin; refine wpList_append_own _ rfl (.tmp 98) (.tmp 99) 27 rfl B3 5 i0 (.int .u8 0) 1 1 Tryd.underlying27 hi hz0 hz1 hz2 rfl (by decide) (.slice da dn dc) (2 * j) ((dB j).map (Value.int .u8)) rfl (unhide HO) ⟨wr.heap.size, 0, none⟩ 2 2 [.int .u8 2, .int .u8 64] rfl rfl ?c1 ?c2 ?c3 ?c4 ?c5 ?_)
            case c1 =>
              intro q u hu
              rcases q with _ | _ | q
              · simp at hu; subst hu; simp [Addr.add]
              · simp at hu; subst hu; simp [Addr.add]
              · simp at hu
            case c2 => intro u hu; simp at hu; rcases hu with rfl | rfl <;> rfl
            case c3 => unfold maxLen; omega
            case c4 => omega
            case c5 => have := unhide HLt; simp; omega
            intro v' w6 hown6 hgrow _
            have hb6 : Below B3 w3 w6 := ((unhide HBe).alloc (unhide HLt) _).grown hgrow (by have := unhide HLt; simp; omega) (fun k hk => (unhide HLo k hk).1)
            have ho6 : w6.ownsRow B3 5 1 v' (2 * (j + 1)) ((dB (j + 1)).map (Value.int .u8)) := by rw [dB_succ, List.map_append, show 2 * (j + 1) = 2 * j + 2 by omega]; exact hown6
            have HO6 := hide ho6; have HB6 := hide hb6; have HL6 := hide (show B3 ≤ w6.heap.size by have := hgrow.size; have := unhide HLt; simp at *; omega)
            clear hown6 hgrow hb6 ho6
            go_wp2
            go_roundw
            case rel => exact ⟨j + 1, by go_num, by omega, unhide HO6, unhide HB6, unhide HL6⟩
            case measure => simp [intOf]; omega
          · obtain rfl : j = 60 + K := by omega
            have HO := hide (show wr.ownsRow B3 5 1 (.slice da dn dc) (2 * (60 + K) + 0) (rowE (60 + K) 0) by simpa [rowE] using hown); have HBe := hide hbel; have HLt := hide hlt
            clear hown hbel hlt hj hjk
            rw [show (((60 + K : Nat)) : Int) = 60 + (K : Int) by omega]
            go_wp2_with fail
            go_loopw [17, 19] (fun s c wr => ∃ q : Nat, c = .int .i64 q ∧ (q : Int) ≤ 61 + (K : Int) ∧ wr.ownsRow B3 5 1 s (2 * (60 + K) + q) (rowE (60 + K) q) ∧ Below B3 w3 wr ∧ B3 ≤ wr.heap.size) (fun _ c _ => 61 + K - (intOf c).toNat)
            case atStart => exact ⟨0, rfl, by omega, unhide HO, unhide HBe, unhide HLt⟩
            case round =>
              clear HO HBe HLt
              obtain ⟨q, rfl, hq, hown, hbel, hlt⟩ := hrel
              have hsh : ∃ a n cp, u17 = .slice a n cp := by rcases hown.2 with ⟨rfl, _⟩ | ⟨g, cap, cur, rfl, _⟩; exact ⟨_, _, _, rfl⟩; exact ⟨_, _, _, rfl⟩
              obtain ⟨da, dn, dc, rfl⟩ := hsh
              by_cases hqk : (q : Int) ≤ 60 + (K : Int)
              · have hown2 := hown.alloc (.cells #[.int .u8 11] 5)
                have HO := hide hown2; have HBe := hide hbel; have HLt := hide hlt; have HLo := hide hown.lt
                clear hown hown2 hbel hlt hq
                go_wp2_with (at_builtin; refine wpList_append_own _ rfl (.tmp 106) (.tmp 107) 27 rfl B3 5 i0 (.int .u8 0) 1 1 Tryd.underlying27 hi hz0 hz1 hz2 rfl (by decide) (.slice da dn dc) (2 * (60 + K) + q) (rowE (60 + K) q) rfl (unhide HO) ⟨wr.heap.size, 0, none⟩ 1 1 [.int .u8 11] rfl rfl ?c1 ?c2 ?c3 ?c4 ?c5 ?_)
                case c1 => exact cell_one_new _ _ _
                case c2 => intro u hu; simp at hu; subst hu; rfl
                case c3 => unfold maxLen; omega
                case c4 => omega
                case c5 => have := unhide HLt; simp; omega
                intro v' w6 hown6 hgrow _
                have hb6 : Below B3 w3 w6 := ((unhide HBe).alloc (unhide HLt) _).grown hgrow (by have := unhide HLt; simp; omega) (fun k hk => (unhide HLo k hk).1)
                have ho6 : w6.ownsRow B3 5 1 v' (2 * (60 + K) + (q + 1)) (rowE (60 + K) (q + 1)) := by rw [rowE_succ]; exact hown6
                have HO6 := hide ho6; have HB6 := hide hb6; have HL6 := hide (show B3 ≤ w6.heap.size by have := hgrow.size; have := unhide HLt; simp at *; omega)
                clear hown6 hgrow hb6 ho6
                go_wp2
                go_roundw
                case rel => exact ⟨q + 1, by go_num, by omega, unhide HO6, unhide HB6, unhide HL6⟩
                case measure => simp [intOf]; omega
              · obtain rfl : q = 61 + K := by omega
                have hlen : (dB (60 + K) ++ List.replicate (61 + K) 11).length = 2 * (60 + K) + (61 + K) := by rw [List.length_append, dB_len]; simp
                obtain ⟨gg, gc, hv, hrow, hcap, _⟩ := own_shape hown (by omega) (by intro z hz; rcases List.mem_append.1 hz with hz | hz; exact dB_bytes _ z hz; obtain rfl := (List.mem_replicate.1 hz).2; decide)
                have hb3 : Below w3.heap.size w3 wr := by rw [unhide HB3s]; exact hbel
                have hDe := decode_any (cap := gc) ⟨hrow, by simp, hcap, by omega⟩ ((unhide HT3).below hb3)
                have hdd := deep_D (60 + K) (61 + K) (by omega)
                rw [← hv] at hDe
                generalize D (dB (60 + K) ++ List.replicate (61 + K) 11) 0 0 0 false = R at *
                have HDe := hide hDe; have HDD := hide hdd; have HBB := hide hb3
                clear hDe hdd hb3 hv hrow hcap hlen hown hbel hlt hq hqk
                go_wp2_with fail
                refine (unhide HDe).mono ?_
                rintro e w7 ⟨v, rfl, ⟨va, vl, vc, rfl⟩, hb7, _, _⟩
                rw [(unhide HDD).1, (unhide HDD).2, errV_9]
                have hb37 := Below.on (unhide HBB) hb7
                have HB37 := hide hb37
                clear hb7 hb37 HDe
                go_wp2_with fail
                refine (num_hit 9 _ ((unhide HE3).below (Nat.le_refl _) (unhide HB37))).mono ?_
                rintro e w8 ⟨rfl, hb8⟩
                have hb38 := Below.on (unhide HB37) hb8
                have HB4 := hide (Below.on (unhide HB3) hb38); have HCt4 := hide ((unhide HCt3).below hb38)
                clear hb8 hb38 HB37
                have HB8 := HB4
                go_wp2_with fail
                refine (sure_any _ ((unhide HT).below (unhide HB8)) ((unhide HE).below (Nat.le_refl _) (unhide HB8))).mono ?_
                rintro e w9 ⟨rfl, hb9⟩
                have HB9 := hide (Below.on (unhide HB8) hb9)
                clear hb9
                go_wp2
                go_ret
                exact ⟨rfl, unhide HB9⟩
end Ex
end Go.Proofs.YtjhmglefejclpaaDoor

/- ExprDeep returns true for every two ints, and leaves them: blocks may stand 64 deep in others, and not one deeper; a br_table has one label at least, and 257 at most. Of ops' tables and of errors.errorType it takes what the program's text lays (the card ties it). -/
namespace Go.Proofs.YtjhmglefejclpaaDoor.exprDeep
open Go.ChangeShapes Go.WideShapes Go.ChangeAt Go.RowKit
open Go.ChangeMaps (open_string shut_string)
set_option linter.unusedVariables false

theorem own : ownKnob Tryd.prog.godebug = none := by kernel_rfl



set_option maxHeartbeats 400000 in
theorem walk (a0 : Int) (a1 : Int) (w0 : (Lit.int .i64 a0).wf = true) (w1 : (Lit.int .i64 a1).wf = true) (w : World) (hErr : ErrT w) (hTb : Tb w) :
    Calls Tryd.prog 6 #[.int .i64 a0, .int .i64 a1] w fun e w' => e = .returned (.bool true) ∧ Below w.heap.size w w' := by
  have h1 : 0 ≤ IntKind.u64.wrap a0 := by rw [IntKind.wrap_u64]; omega
  have h2 : 0 ≤ IntKind.u64.wrap a1 := by rw [IntKind.wrap_u64]; omega
  obtain ⟨K, hK⟩ := Int.eq_ofNat_of_zero_le (show 0 ≤ IntKind.u64.wrap a0 % 8 by omega)
  obtain ⟨M, hM⟩ := Int.eq_ofNat_of_zero_le (show 0 ≤ IntKind.u64.wrap a1 % 300 by omega)
  have eK : (IntKind.u64.wrap a0).tmod 8 = (K : Int) := by rw [Int.tmod_eq_emod_of_nonneg h1]; exact hK
  have eM : (IntKind.u64.wrap a1).tmod 300 = (M : Int) := by rw [Int.tmod_eq_emod_of_nonneg h2]; exact hM
  by_cases hk : 60 + K ≤ 64
  · by_cases hm : 1 ≤ M ∧ M ≤ 257
    · exact Ex.deep_yy a0 a1 w hTb hErr K M eK (by omega) eM (by omega) hk hm
    · exact Ex.deep_yn a0 a1 w hTb hErr K M eK (by omega) eM (by omega) hk hm
  · by_cases hm : 1 ≤ M ∧ M ≤ 257
    · exact Ex.deep_ny a0 a1 w hTb hErr K M eK (by omega) eM (by omega) (by omega) hm
    · exact Ex.deep_nn a0 a1 w hTb hErr K M eK (by omega) eM (by omega) (by omega) hm

theorem laidWorld_met (os : Os) (args : Array Value) : laidMetH Tryd.prog Rows.exprDeepRow.laid (({ World.holding Tryd.prog os ⟨#[], #[], []⟩ with heap := ((((World.holding Tryd.prog os ⟨#[], #[], []⟩).heap.modify 0 fun | .cells _ t frozen => .cells #[.iface 116 (.agg #[.pointer (some ⟨3, 29, none⟩)])] t frozen | o => o).modify 1 fun | .cells _ t frozen => .cells #[.int .u8 42, .int .u8 43, .int .u8 56, .int .u8 57, .int .u8 67, .int .u8 68, .int .u8 91, .int .u8 102, .int .u8 139, .int .u8 166, .int .u8 168, .int .u8 171, .int .u8 174, .int .u8 191] t frozen | o => o).modify 2 fun | .cells _ t frozen => .cells #[.int .u8 0, .int .u8 1, .int .i64 0, .int .u8 0, .int .u8 0, .int .u8 0, .int .u8 2, .int .u8 3, .int .i64 6, .int .u8 0, .int .u8 0, .int .u8 0, .int .u8 4, .int .u8 4, .int .i64 7, .int .u8 0, .int .u8 0, .int .u8 0, .int .u8 12, .int .u8 13, .int .i64 3, .int .u8 0, .int .u8 0, .int .u8 0, .int .u8 14, .int .u8 14, .int .i64 8, .int .u8 0, .int .u8 0, .int .u8 0, .int .u8 15, .int .u8 15, .int .i64 0, .int .u8 0, .int .u8 0, .int .u8 0, .int .u8 16, .int .u8 16, .int .i64 3, .int .u8 0, .int .u8 0, .int .u8 0, .int .u8 17, .int .u8 17, .int .i64 9, .int .u8 0, .int .u8 0, .int .u8 0, .int .u8 26, .int .u8 27, .int .i64 0, .int .u8 0, .int .u8 0, .int .u8 0, .int .u8 32, .int .u8 36, .int .i64 3, .int .u8 0, .int .u8 0, .int .u8 0, .int .u8 40, .int .u8 40, .int .i64 4, .int .u8 127, .int .u8 0, .int .u8 127, .int .u8 41, .int .u8 41, .int .i64 4, .int .u8 127, .int .u8 0, .int .u8 126, .int .u8 44, .int .u8 47, .int .i64 4, .int .u8 127, .int .u8 0, .int .u8 127, .int .u8 48, .int .u8 53, .int .i64 4, .int .u8 127, .int .u8 0, .int .u8 126, .int .u8 54, .int .u8 54, .int .i64 4, .int .u8 127, .int .u8 127, .int .u8 0, .int .u8 55, .int .u8 55, .int .i64 4, .int .u8 127, .int .u8 126, .int .u8 0, .int .u8 58, .int .u8 59, .int .i64 4, .int .u8 127, .int .u8 127, .int .u8 0, .int .u8 60, .int .u8 62, .int .i64 4, .int .u8 127, .int .u8 126, .int .u8 0, .int .u8 63, .int .u8 63, .int .i64 5, .int .u8 0, .int .u8 0, .int .u8 127, .int .u8 64, .int .u8 64, .int .i64 5, .int .u8 127, .int .u8 0, .int .u8 127, .int .u8 65, .int .u8 65, .int .i64 1, .int .u8 0, .int .u8 0, .int .u8 127, .int .u8 66, .int .u8 66, .int .i64 2, .int .u8 0, .int .u8 0, .int .u8 126, .int .u8 69, .int .u8 69, .int .i64 0, .int .u8 127, .int .u8 0, .int .u8 127, .int .u8 70, .int .u8 79, .int .i64 0, .int .u8 127, .int .u8 127, .int .u8 127, .int .u8 80, .int .u8 80, .int .i64 0, .int .u8 126, .int .u8 0, .int .u8 127, .int .u8 81, .int .u8 90, .int .i64 0, .int .u8 126, .int .u8 126, .int .u8 127, .int .u8 103, .int .u8 105, .int .i64 0, .int .u8 127, .int .u8 0, .int .u8 127, .int .u8 106, .int .u8 120, .int .i64 0, .int .u8 127, .int .u8 127, .int .u8 127, .int .u8 121, .int .u8 123, .int .i64 0, .int .u8 126, .int .u8 0, .int .u8 126, .int .u8 124, .int .u8 138, .int .i64 0, .int .u8 126, .int .u8 126, .int .u8 126, .int .u8 167, .int .u8 167, .int .i64 0, .int .u8 126, .int .u8 0, .int .u8 127, .int .u8 172, .int .u8 173, .int .i64 0, .int .u8 127, .int .u8 0, .int .u8 126] t frozen | o => o) } : World).forCall (fun _ _ => 0) ⟨#[], args, []⟩).memory :=
  laidMetH_of_parts (laidMet_of_run' 8 (by kernel_rfl) (by kernel_rfl)) (by kernel_rfl)

set_option maxRecDepth 100000 in
theorem lifted (os : Os) (started : os.Started) (H : Type) (enc : TypeId × Value → H) :
    ReturnsInHanded {} Tryd.checked os 6 .any (fun w args => (Rows.exprDeepSpec.pre enc Tryd.prog Tryd.f6 [] false w args ∧ laidMetH Tryd.prog Rows.exprDeepRow.laid w) ∧ sizedMet enc Tryd.prog Tryd.f6 (OpenSpec.ofChange Rows.exprDeepSpec) false w args) (Rows.exprDeepSpec.post enc Tryd.prog Tryd.f6 false true false false) := by
  refine returnsInHanded_of_change_and (C := Tryd.checked) (X := fun w _ => laidMetH Tryd.prog Rows.exprDeepRow.laid w) (fun _ _ _ hh h => h.of_heap hh) own started (by kernel_rfl) Tryd.func6
    (ChangeSpec.witness_at (enc := enc) (C := Tryd.checked) (os := os) (X := fun w _ => laidMetH Tryd.prog Rows.exprDeepRow.laid w) false ({ World.holding Tryd.prog os ⟨#[], #[], []⟩ with heap := ((((World.holding Tryd.prog os ⟨#[], #[], []⟩).heap.modify 0 fun | .cells _ t frozen => .cells #[.iface 116 (.agg #[.pointer (some ⟨3, 29, none⟩)])] t frozen | o => o).modify 1 fun | .cells _ t frozen => .cells #[.int .u8 42, .int .u8 43, .int .u8 56, .int .u8 57, .int .u8 67, .int .u8 68, .int .u8 91, .int .u8 102, .int .u8 139, .int .u8 166, .int .u8 168, .int .u8 171, .int .u8 174, .int .u8 191] t frozen | o => o).modify 2 fun | .cells _ t frozen => .cells #[.int .u8 0, .int .u8 1, .int .i64 0, .int .u8 0, .int .u8 0, .int .u8 0, .int .u8 2, .int .u8 3, .int .i64 6, .int .u8 0, .int .u8 0, .int .u8 0, .int .u8 4, .int .u8 4, .int .i64 7, .int .u8 0, .int .u8 0, .int .u8 0, .int .u8 12, .int .u8 13, .int .i64 3, .int .u8 0, .int .u8 0, .int .u8 0, .int .u8 14, .int .u8 14, .int .i64 8, .int .u8 0, .int .u8 0, .int .u8 0, .int .u8 15, .int .u8 15, .int .i64 0, .int .u8 0, .int .u8 0, .int .u8 0, .int .u8 16, .int .u8 16, .int .i64 3, .int .u8 0, .int .u8 0, .int .u8 0, .int .u8 17, .int .u8 17, .int .i64 9, .int .u8 0, .int .u8 0, .int .u8 0, .int .u8 26, .int .u8 27, .int .i64 0, .int .u8 0, .int .u8 0, .int .u8 0, .int .u8 32, .int .u8 36, .int .i64 3, .int .u8 0, .int .u8 0, .int .u8 0, .int .u8 40, .int .u8 40, .int .i64 4, .int .u8 127, .int .u8 0, .int .u8 127, .int .u8 41, .int .u8 41, .int .i64 4, .int .u8 127, .int .u8 0, .int .u8 126, .int .u8 44, .int .u8 47, .int .i64 4, .int .u8 127, .int .u8 0, .int .u8 127, .int .u8 48, .int .u8 53, .int .i64 4, .int .u8 127, .int .u8 0, .int .u8 126, .int .u8 54, .int .u8 54, .int .i64 4, .int .u8 127, .int .u8 127, .int .u8 0, .int .u8 55, .int .u8 55, .int .i64 4, .int .u8 127, .int .u8 126, .int .u8 0, .int .u8 58, .int .u8 59, .int .i64 4, .int .u8 127, .int .u8 127, .int .u8 0, .int .u8 60, .int .u8 62, .int .i64 4, .int .u8 127, .int .u8 126, .int .u8 0, .int .u8 63, .int .u8 63, .int .i64 5, .int .u8 0, .int .u8 0, .int .u8 127, .int .u8 64, .int .u8 64, .int .i64 5, .int .u8 127, .int .u8 0, .int .u8 127, .int .u8 65, .int .u8 65, .int .i64 1, .int .u8 0, .int .u8 0, .int .u8 127, .int .u8 66, .int .u8 66, .int .i64 2, .int .u8 0, .int .u8 0, .int .u8 126, .int .u8 69, .int .u8 69, .int .i64 0, .int .u8 127, .int .u8 0, .int .u8 127, .int .u8 70, .int .u8 79, .int .i64 0, .int .u8 127, .int .u8 127, .int .u8 127, .int .u8 80, .int .u8 80, .int .i64 0, .int .u8 126, .int .u8 0, .int .u8 127, .int .u8 81, .int .u8 90, .int .i64 0, .int .u8 126, .int .u8 126, .int .u8 127, .int .u8 103, .int .u8 105, .int .i64 0, .int .u8 127, .int .u8 0, .int .u8 127, .int .u8 106, .int .u8 120, .int .i64 0, .int .u8 127, .int .u8 127, .int .u8 127, .int .u8 121, .int .u8 123, .int .i64 0, .int .u8 126, .int .u8 0, .int .u8 126, .int .u8 124, .int .u8 138, .int .i64 0, .int .u8 126, .int .u8 126, .int .u8 126, .int .u8 167, .int .u8 167, .int .i64 0, .int .u8 126, .int .u8 0, .int .u8 127, .int .u8 172, .int .u8 173, .int .i64 0, .int .u8 127, .int .u8 0, .int .u8 126] t frozen | o => o) } : World) #[.int .i64 0, .int .i64 0] 8 rfl (by kernel_rfl) (by kernel_rfl) (by kernel_rfl) (by kernel_rfl) (by kernel_rfl) (laidWorld_met os _)) ?_
  intro W base args ds gs before hval0 hW _ _ hL _
  have hLL : laidMet Tryd.prog [("mandrel/ops.floats", Rows.laid_mandrel_ops_floats), ("mandrel/ops.families", Rows.laid_mandrel_ops_families)] W ∧ handlesMet Tryd.prog [("errors.errorType", Rows.laid_errors_errorType)] W := hL
  have hg : ErrT W := handle_of_met hLL.2
  have hgTb : Tb W := ⟨families_laid hLL.1.tail, floats_laid hLL.1⟩
  have hval : ∀ (j : Nat) t v, Tryd.f6.params[j]? = some t → args[j]? = some v → Value.okWide Tryd.prog W .any base t v := hval0
  have hW' := hW
  obtain ⟨p, q, hA0, hV, rfl, hfz, hnd⟩ := hW
  have hA : DataW.TrodAll enc Tryd.prog W 0 (fun _ => true) true Tryd.f6.params.toList args.toList ds p := hA0
  rw [Tryd.params6] at hA hval
  obtain ⟨v0, vs0, d0, ds0, p0, q0, hargs, rfl, rfl, h0, r0⟩ := trodAll_cons hA
  obtain ⟨v1, vs1, d1, ds1, p1, q1, rfl, rfl, rfl, h1, r1⟩ := trodAll_cons r0
  obtain ⟨rfl, rfl, rfl⟩ := trodAll_nil r1
  obtain rfl : args = #[v0, v1] := by cases args; simp_all
  obtain ⟨rfl, rfl⟩ := trodVars_none hV
  obtain ⟨a0, rfl, rfl, rfl, w0⟩ := open_int Tryd.underlying3 (hval 0 3 v0 rfl rfl) h0
  obtain ⟨a1, rfl, rfl, rfl, w1⟩ := open_int Tryd.underlying3 (hval 1 3 v1 rfl rfl) h1
  clear hA0 hval0
  refine (walk a0 a1 w0 w1 W hg hgTb).mono fun e W' ⟨he, bel⟩ => ?_
  subst he
  exact ⟨_, rfl, _, _, _, [], _, [], hW', trodAll_mk1 (shut_bool Tryd.underlying4 _), (trodAll_cons_mk (shut_int Tryd.underlying3 w0) (trodAll_cons_mk (shut_int Tryd.underlying3 w1) trodAll_mk0)), rfl, bel.frame _, fun h => by cases h⟩

theorem over : Rows.exprDeepRow.holds Tryd.pinned (OpenSpec.ofChange Rows.exprDeepSpec) :=
  OpenClaim.holds_of_wide 6 Tryd.f6 rfl rfl rfl rfl rfl rfl rfl ⟨rfl, rfl, rfl, rfl, rfl⟩ rfl rfl rfl rfl rfl (by kernel_rfl) Tryd.func6 (by kernel_rfl)
    (of_decide_eq_true (by kernel_rfl)) (by unfold Func.isWrapper; first | (rw [if_pos (by decide +kernel)]; kernel_rfl) | (rw [if_neg (by decide +kernel)]; exact ⟨rfl, rfl⟩))
    (fun os started H enc _ => lifted os started H enc)

theorem proved : Rows.ExprDeepSaid :=
  over
end Go.Proofs.YtjhmglefejclpaaDoor.exprDeep

namespace Go.Proofs.YtjhmglefejclpaaDoor
theorem exprDeep_holds : Rows.ExprDeepSaid := exprDeep.proved
theorem exprDeep_card : Rows.ExprDeepCardSaid :=
  Claim7.holds_tied_plain_at .later [] [.handle, .data, .data] true (true, "27487f0801419c3aa2d285dc382f7dafbb3a3d4e45b0768cf0bac19b1b748c3c") true
    exprDeep_holds (fun _ h => by cases h) (by kernel_rfl) (fun _ h => by cases h) exprDeep_row_tie rfl ⟨rfl, rfl⟩ (by kernel_rfl) rfl
    (fun f fn hf hfn => by
      obtain rfl : 6 = f := Option.some.inj (Eq.trans (by kernel_rfl) hf)
      obtain rfl : fn = Tryd.f6 := (Option.some.inj (Tryd.func6.symm.trans hfn)).symm
      exact ⟨by kernel_rfl, fun j t ht => by
        rw [Tryd.params6] at ht
        rcases j with _ | _ | j
        · obtain rfl : t = 3 := by simpa using ht.symm
          exact (show Tryd.prog.wantsStandIn 3 = false by kernel_rfl)
        · obtain rfl : t = 3 := by simpa using ht.symm
          exact (show Tryd.prog.wantsStandIn 3 = false by kernel_rfl)
        · simp at ht⟩)
    (by kernel_rfl)
end Go.Proofs.YtjhmglefejclpaaDoor
