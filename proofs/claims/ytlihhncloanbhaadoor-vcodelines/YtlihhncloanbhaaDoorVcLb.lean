/- VcodeLines' walk. By mklines.py. -/
import Derived.Test.YtlihhncloanbhaaDoorVcLa
import Derived.Test.YtlihhncloanbhaaDoorVcZd
import Derived.Test.YtlihhncloanbhaaDoorVcP
import Derived.Test.YtlihhncloanbhaaDoorVcR
import Derived.Test.YtlihhncloanbhaaDoorVcN
import Derived.Test.YtlihhncloanbhaaDoorNum
namespace Go.Proofs.YtlihhncloanbhaaDoor
open Go.RowKit
namespace Vc
set_option linter.unusedVariables false
set_option linter.unusedSimpArgs false

theorem bls_shape2 {w : World} {g : Nat → Prop} {l : List Bl} {v : Value} (h : Bls w g l v) : ∃ a cp, v = .slice a l.length cp := by obtain ⟨a, cp, e, _⟩ := h; exact ⟨a, cp, e⟩
theorem flat_len {α : Type} {f : α → List UInt8} {M : Nat} : ∀ {l : List α}, (∀ x ∈ l, (f x).length ≤ M) → (l.flatMap f).length ≤ l.length * M
  | [], _ => by simp
  | x :: l, h => by
    have h1 := h x (by simp)
    have h2 := flat_len (l := l) fun y hy => h y (by simp [hy])
    rw [List.flatMap_cons, List.length_append, List.length_cons, Nat.add_mul]; omega
set_option maxRecDepth 100000 in
theorem nam_len_all : ((List.range 256).all fun n => decide ((nam n).length ≤ 100)) = true := by kernel_rfl
theorem line_len (x : In) (hx : WfI x) (next : List Int) (hn : ∀ z ∈ next, i64 z) : (line x next).length ≤ 300 + 23 * x.src.length + 22 * next.length := by
  have h1 : (pGiv x.dst).length ≤ 25 := by
    unfold pGiv; split
    · have := dec_len _ hx.dst; simp; omega
    · simp
  have h2 : (nam x.op).length ≤ 100 := by have := List.all_eq_true.1 nam_len_all x.op (List.mem_range.2 hx.op); simpa using this
  have h3 : (pSrc x.src).length ≤ x.src.length * 23 := flat_len fun z hz => by have := dec_len _ (hx.src z hz); simp; omega
  have h4 : (pNum x.op x.n).length ≤ 22 := by
    unfold pNum; split
    · have := dec_len _ hx.n; simp; omega
    · simp
  have h5 : (pOf x.op x.of).length ≤ 23 := by
    unfold pOf; split
    · have := dec_len x.of ⟨by have := hx.of0; omega, by have := hx.of1; omega⟩; simp; omega
    · simp
  have h6 : (pNext x.op next).length ≤ 3 + next.length * 22 := by
    unfold pNext; split
    · have : (pTo next).length ≤ next.length * 22 := flat_len fun z hz => by have := dec_len _ (hn z hz); simp; omega
      rw [List.length_append]; simp; omega
    · simp
  unfold line
  simp only [List.length_append, List.length_cons, List.length_nil]
  omega
theorem txtB_len {K : Nat} : ∀ (l : List Bl) (i : Nat), (∀ b ∈ l, i64 b.dep ∧ (insT b.ins b.next).length ≤ K) → i + l.length ≤ 4611686018427387904 → (txtB i l).length ≤ l.length * (100 + K)
  | [], i, _, _ => by simp [txtB]
  | b :: l, i, h, hi => by
    obtain ⟨h1, h2⟩ := h b (by simp)
    rw [List.length_cons] at hi
    have h3 := txtB_len (K := K) l (i + 1) (fun y hy => h y (by simp [hy])) (by omega)
    have h4 : (hdB (i : Int) b.dep).length ≤ 100 := by
      have := dec_len (i : Int) ⟨by omega, by omega⟩; have := dec_len _ h1; simp [hdB]; omega
    rw [txtB, List.length_append, List.length_append, List.length_cons, Nat.add_mul]; omega
theorem txt_len (c : Co) (hc : WfC c) (h1 : c.bl.length ≤ 200) (h2 : tot c.bl ≤ 1500) : (txt c).length ≤ 1099511627776 := by
  have hf : (first c).length ≤ 100 := by
    have := dec_len _ hc.pa; have := dec_len _ hc.re
    unfold first
    cases c.rs <;> simp <;> omega
  have hb : (txtB 0 c.bl).length ≤ c.bl.length * (100 + 101700000) := by
    refine txtB_len c.bl 0 (fun b hb => ⟨(hc.bl b hb).dep, ?_⟩) (by omega)
    have h3 : b.next.length + totI b.ins ≤ tot c.bl := le_sum (fun b : Bl => b.next.length + totI b.ins) hb
    have h4 := len_totI b.ins
    have h5 : (insT b.ins b.next).length ≤ b.ins.length * 67800 := flat_len fun x hx => by
      have h6 := line_len x ((hc.bl b hb).ins x hx) b.next (hc.bl b hb).next
      have h7 : 1 + x.src.length ≤ totI b.ins := le_sum (fun x : In => 1 + x.src.length) hx
      omega
    omega
  unfold txt
  rw [List.length_append]; omega
theorem lines_next {T : List UInt8} {i m k C D : Nat} {x : UInt8} {fl : Bool} (hx : T[i]? = some x) (h1 : m + (T.drop i).count 10 = C) (h2 : k + inB fl (T.drop i) = D) :
    (m + (if x = 10 then 1 else 0)) + (T.drop (i + 1)).count 10 = C ∧ (k + (if fl && (x == 32 && T[i + 1]? == some 32) then 1 else 0)) + inB (decide (i + 1 = 0) || T[i + 1 - 1]? == some 10) (T.drop (i + 1)) = D := by
  have hd := lines_step hx
  rw [hd] at h1 h2
  have hf : (decide (i + 1 = 0) || T[i + 1 - 1]? == some 10) = (x == 10) := by rw [Nat.add_sub_cancel, hx]; simp
  have hh : (T.drop (i + 1)).head? = T[i + 1]? := by rw [List.head?_drop]
  rw [inB, hh] at h2
  rw [hf]
  refine ⟨?_, by omega⟩
  rw [List.count_cons] at h1
  by_cases e : x = 10
  · subst e; simp at h1 ⊢; omega
  · simp [e] at h1 ⊢; omega
theorem str_at {T : List UInt8} {i : Nat} {S : ByteArray} (h : str T = S) (hi : i < S.size) : T[i]? = some S[i] := by
  subst h
  have hi2 : i < T.length := hi
  rw [List.getElem?_eq_getElem hi2]; rfl
theorem ne10 {x : UInt8} (h : ¬ x = 10) : ((x.toNat : Int) == 10) = false := by
  simp only [beq_eq_false_iff_ne, ne_eq]
  intro e
  have e2 : x.toNat = (10 : UInt8).toNat := by show x.toNat = 10; omega
  exact h (UInt8.toNat_inj.1 e2)
theorem ne32 {x : UInt8} (h : ¬ x = 32) : ((x.toNat : Int) == 32) = false := by
  simp only [beq_eq_false_iff_ne, ne_eq]
  intro e
  have e2 : x.toNat = (32 : UInt8).toNat := by show x.toNat = 32; omega
  exact h (UInt8.toNat_inj.1 e2)
theorem siz_tot (l : List Bl) : siz l ≤ tot l := by
  induction l with
  | nil => simp [siz, tot]
  | cons b l ih =>
    have h := len_totI b.ins
    unfold siz tot at *
    simp only [List.map_cons, List.sum_cons] at *
    omega

set_option maxRecDepth 100000 in
set_option maxHeartbeats 6400000 in
theorem lines_walk (c : Co) (hc0 : WfC0 c) (v : Value) (w : World) (hT : Fms w) (hN : Nms w) (hP : P10 w) (hEr : ErrT w) (hv : Bls w (fun k => k < w.heap.size) c.bl v) :
    Calls Tryd.prog 6 #[.agg #[.int .i64 c.pa, .int .i64 c.re, .bool c.rs, v]] w fun e w' => e = .returned (.bool true) ∧ Below w.heap.size w w' := by
  have hsure := fun W (h : Below w.heap.size w W) => sure_any W (TC.below hT h) (hN.below h) (hP.below h)
  have hmv : ∀ W, Below w.heap.size w W → Bls W (fun k => k < w.heap.size) c.bl v := fun W h => hv.moved (fun k _ hk => ⟨hk, h.block k hk⟩) h.size
  have hgive := fun (hc : WfC c) W (h : Below w.heap.size w W) => give_any c hc (fun k => k < w.heap.size) v W (hmv W h) (fun k hk => Nat.lt_of_lt_of_le hk h.size)
  have hheavy := fun W (h : Below w.heap.size w W) => heavy_any c.pa c.re c.rs c.bl hc0.bl (fun k => k < w.heap.size) v W (hmv W h) hc0.len
  have hmay := fun (hc : WfC c) (hz : siz c.bl ≤ 1099511627776) W (h : Below w.heap.size w W) => rmay_any c hc (fun k => k < w.heap.size) v W (hmv W h) hz
  have hsize := fun (hc : WfC c) (hz : siz c.bl ≤ 1099511627776) W (h : Below w.heap.size w W) => rsize_any c.pa c.re c.rs c.bl (fun k => k < w.heap.size) v W (hmv W h) hc.len hz
  have htext := fun (hc : WfC c) (hz : siz c.bl ≤ 1099511627776) (hl : (txt c).length ≤ 1099511627776) g va W (h : Below w.heap.size w W) (hb : Bls W g c.bl va) (hg : ∀ k, g k → k < W.heap.size) => text_any c hc g va W (TC.below hT h) (hN.below h) (hP.below h) hb hg hz hl
  have hnum := fun W (h : Below w.heap.size w W) => num_hit 2 W (hEr.below (Nat.le_refl _) h)
  have HSu := hide hsure; have HGi0 := hide hgive; have HHe := hide hheavy; have HMy0 := hide hmay; have HSz0 := hide hsize; have HTx0 := hide htext; have HNu := hide hnum; have HC0 := hide hc0; have HV := hide hv
  clear hsure hgive hheavy hmay hsize htext hnum hT hN hP hEr hmv
  obtain ⟨a, cp, rfl⟩ := bls_shape2 hv
  clear hv hc0
  have hb1 := one_alloc w (.cells #[.int .i64 c.pa, .int .i64 c.re, .bool c.rs, .slice a c.bl.length cp] 24)
  have r1 : (w.alloc (.cells #[.int .i64 c.pa, .int .i64 c.re, .bool c.rs, .slice a c.bl.length cp] 24)).heap[w.heap.size]? = some (.cells (cob c.pa c.re c.rs (.slice a c.bl.length cp)) 24 (0, 0)) := heap_alloc_new _ _
  have HB1 := hide hb1; have HR1 := hide r1
  clear hb1 r1
  go_enter Tryd.func6, Tryd.ntmps6
  go_upto_region 1 with fail
  generalize w.alloc (.cells #[.int .i64 c.pa, .int .i64 c.re, .bool c.rs, .slice a c.bl.length cp] 24) = W1 at *
  have hcl : ∀ wx, Below W1.heap.size W1 wx → (wx.cell? ⟨w.heap.size, 0, none⟩ = some (.int .i64 c.pa) ∧ wx.cell? ⟨w.heap.size, 1, none⟩ = some (.int .i64 c.re) ∧ wx.cell? ⟨w.heap.size, 2, none⟩ = some (.bool c.rs) ∧ wx.cell? ⟨w.heap.size, 3, none⟩ = some (.slice a c.bl.length cp) ∧ w.heap.size < wx.heap.size) ∧ Below w.heap.size w wx := by
    intro wx hb
    obtain ⟨x0, x1, x2, x3, _, xl⟩ := cob_cells ((hb.block _ (Array.getElem?_eq_some_iff.1 (unhide HR1)).1).trans (unhide HR1))
    exact ⟨⟨x0, x1, x2, x3, xl⟩, (unhide HB1).trans (hb.mono (unhide HB1).size)⟩
  have HCl := hide hcl
  obtain ⟨⟨x0, x1, x2, x3, xl⟩, _⟩ := hcl W1 (Below.refl _ _)
  clear hcl
  go_wp2_with fail
  refine (unhide HHe W1 (unhide HB1)).mono ?_
  rintro e w2 ⟨⟨hb, rfl, hhv⟩, hb2⟩
  have HHv := hide hhv; have HB2 := hide hb2
  clear hhv x0 x1 x2 x3 xl HHe
  obtain ⟨⟨x0, x1, x2, x3, xl⟩, hbe2⟩ := unhide HCl w2 hb2
  have HBe2 := hide hbe2
  clear hb2 hbe2
  cases hb with
  | true =>
    clear HHv
    go_wp2_with fail
    refine (unhide HSu w2 (unhide HBe2)).mono ?_
    rintro e w3 ⟨rfl, hb3⟩
    have HB3 := hide ((unhide HBe2).trans (hb3.mono (unhide HBe2).size))
    clear hb3
    go_wp2
    go_ret
    exact ⟨rfl, unhide HB3⟩
  | false =>
  have hh := unhide HHv rfl
  have HC := hide ((unhide HC0).up hh.1 hh.2)
  have hsz := siz_tot c.bl
  have HZ := hide (show siz c.bl ≤ 1099511627776 by have := hh.2; omega)
  have HZ2 := hide (show siz c.bl ≤ 1500 by have := hh.2; omega)
  have HTl := hide (txt_len c (unhide HC) hh.1 hh.2)
  have HLen := hide hh.1
  have HMy := hide (unhide HMy0 (unhide HC) (unhide HZ)); have HGi := hide (unhide HGi0 (unhide HC)); have HSz := hide (unhide HSz0 (unhide HC) (unhide HZ)); have HTx := hide (unhide HTx0 (unhide HC) (unhide HZ) (unhide HTl))
  clear hh hsz HHv HMy0 HGi0 HSz0 HTx0 HC0
  go_wp2_with fail
  refine (unhide HMy w2 (unhide HBe2)).mono ?_
  rintro e w3 ⟨rfl, hb3⟩
  have hb13 := (unhide HB2).trans (hb3.mono (unhide HB2).size)
  have HB3 := hide hb13
  clear x0 x1 x2 x3 xl hb3 HMy
  obtain ⟨⟨x0, x1, x2, x3, xl⟩, hbe3⟩ := unhide HCl w3 hb13
  have HBe3 := hide hbe3
  clear hb13 hbe3
  cases hck : chk c with
  | false =>
    clear hck
    go_wp2_with fail
    refine (unhide HSu w3 (unhide HBe3)).mono ?_
    rintro e w4 ⟨rfl, hb4⟩
    have HB4 := hide ((unhide HBe3).trans (hb4.mono (unhide HBe3).size))
    clear hb4
    go_wp2
    go_ret
    exact ⟨rfl, unhide HB4⟩
  | true =>
  have HCk := hide hck
  clear hck
  go_wp2_with fail
  refine (unhide HGi w3 (unhide HBe3)).mono ?_
  rintro e w4 ⟨va, rfl, hla, hb4⟩
  obtain ⟨aa, ca, rfl⟩ := bls_shape2 hla
  have hb14 := (unhide HB3).trans (hb4.mono (unhide HB3).size)
  have HB4 := hide hb14; have HLa := hide hla
  clear x0 x1 x2 x3 xl hb4 hla HGi
  obtain ⟨⟨x0, x1, x2, x3, xl⟩, hbe4⟩ := unhide HCl w4 hb14
  have HBe4 := hide hbe4
  clear hb14 hbe4
  go_wp2_with fail
  refine (unhide HTx _ _ w4 (unhide HBe4) (unhide HLa) (fun k hk => hk)).mono ?_
  rintro e w5 ⟨rfl, hb5⟩
  have hb15 := (unhide HB4).trans (hb5.mono (unhide HB4).size)
  have HB5 := hide hb15
  clear x0 x1 x2 x3 xl hb5 HTx HLa
  obtain ⟨⟨x0, x1, x2, x3, xl⟩, hbe5⟩ := unhide HCl w5 hb15
  have HBe5 := hide hbe5
  clear hb15 hbe5
  have hS : txS c = if (txt c).length ≤ 65536 then txt c else [] := by unfold txS; rw [unhide HCk]; rfl
  have hE : txE c = if (txt c).length ≤ 65536 then 0 else 2 := by unfold txE; rw [unhide HCk]; rfl
  rw [hS, hE]
  clear hS hE
  by_cases h6 : (txt c).length ≤ 65536
  · rw [if_pos h6, if_pos h6, errV_0]
    have htl := txt_lines c (fun b hb x hx => (((unhide HC).bl b hb).ins x hx).op)
    have HTL := hide htl; have H6 := hide h6
    clear htl h6 HTl
    generalize txt c = TT at *
    generalize hsT : str TT = S at *
    have hSz : S.size = TT.length := by rw [← hsT]; rfl
    have HST := hide hsT
    generalize htl2 : TT.length = tl at *
    have HTl2 := hide htl2
    have hSzz : (S.size : Int) = tl := by omega
    clear hsT htl2
    go_wp2_with fail
    go_loopw [5, 6, 7] (fun p q c wr => ∃ i m k : Nat, p = .int .i64 m ∧ q = .int .i64 k ∧ c = .int .i64 i ∧ (i : Int) ≤ tl ∧ (m : Int) ≤ i ∧ (k : Int) ≤ i ∧ m + (TT.drop i).count 10 = TT.count 10 ∧ k + inB (decide (i = 0) || TT[i - 1]? == some 10) (TT.drop i) = inB true TT ∧ wr = w5) (fun _ _ c _ => tl - (intOf c).toNat)
    case atStart => exact ⟨0, 0, 0, rfl, rfl, rfl, by omega, by omega, by omega, by simp, by simp, rfl⟩
    case round =>
      obtain ⟨i, m, k, rfl, rfl, rfl, hi, hm, hk, hc1, hc2, rfl⟩ := hrel
      have HC1 := hide hc1; have HC2 := hide hc2
      clear hc1 hc2
      by_cases hlt : (i : Int) < tl
      · have hlt2 : (i : Int) < (S.size : Int) := by omega
        have hiS : i < S.size := by omega
        have h6i : (tl : Int) ≤ 65536 := by have := unhide H6; omega
        have hx := str_at (unhide HST) hiS
        by_cases hi0 : i = 0
        · subst hi0
          by_cases e10 : S[0] = 10
          · have t10 : ((S[0].toNat : Int) == 10) = true := by rw [e10]; rfl
            by_cases hmo : ((0 : Nat) : Int) + 1 < tl
            · have hmS : 0 + 1 < S.size := by omega
              have hmo2 : (((0 : Nat) + 1 : Nat) : Int) < tl := by omega
              have hy := str_at (unhide HST) hmS
              have t32 : ((S[0].toNat : Int) == 32) = false := by rw [e10]; rfl
              have hnx := lines_next hx (unhide HC1) (unhide HC2)
              simp [id, e10, e10] at hnx
              have HNx := hide hnx
              clear hnx
              go_wp2
              go_roundw
              case rel => exact ⟨1, m + 1, k, by go_num, by go_num, by go_num, by omega, by omega, by omega, by have := (unhide HNx).1; (try simp); omega, by have := (unhide HNx).2; (try simp); omega, trivial⟩
              case measure => simp [intOf]; omega
            · have tmo : decide (((0 : Nat) : Int) + 1 < tl) = false := by simpa using hmo
              have hyn : TT[0 + 1]? = none := List.getElem?_eq_none (by have := unhide HTl2; omega)
              have hnx := lines_next hx (unhide HC1) (unhide HC2)
              simp [id, e10, hyn] at hnx
              have HNx := hide hnx
              clear hnx
              go_wp2
              go_roundw
              case rel => exact ⟨1, m + 1, k, by go_num, by go_num, by go_num, by omega, by omega, by omega, by have := (unhide HNx).1; (try simp); omega, by have := (unhide HNx).2; (try simp); omega, trivial⟩
              case measure => simp [intOf]; omega
          · have t10 : ((S[0].toNat : Int) == 10) = false := ne10 e10
            by_cases hmo : ((0 : Nat) : Int) + 1 < tl
            · have hmS : 0 + 1 < S.size := by omega
              have hmo2 : (((0 : Nat) + 1 : Nat) : Int) < tl := by omega
              have hy := str_at (unhide HST) hmS
              by_cases e32 : S[0] = 32
              · have t32 : ((S[0].toNat : Int) == 32) = true := by rw [e32]; rfl
                by_cases f32 : S[0 + 1] = 32
                · have u32 : ((S[0 + 1].toNat : Int) == 32) = true := by rw [f32]; rfl
                  have hnx := lines_next hx (unhide HC1) (unhide HC2)
                  simp [id, e10, e32, hy, f32] at hnx
                  have HNx := hide hnx
                  clear hnx
                  go_wp2
                  go_roundw
                  case rel => exact ⟨1, m, k + 1, by go_num, by go_num, by go_num, by omega, by omega, by omega, by have := (unhide HNx).1; (try simp); omega, by have := (unhide HNx).2; (try simp); omega, trivial⟩
                  case measure => simp [intOf]; omega
                · have u32 : ((S[0 + 1].toNat : Int) == 32) = false := ne32 f32
                  have hnx := lines_next hx (unhide HC1) (unhide HC2)
                  simp [id, e10, e32, hy, f32] at hnx
                  have HNx := hide hnx
                  clear hnx
                  go_wp2
                  go_roundw
                  case rel => exact ⟨1, m, k, by go_num, by go_num, by go_num, by omega, by omega, by omega, by have := (unhide HNx).1; (try simp); omega, by have := (unhide HNx).2; (try simp); omega, trivial⟩
                  case measure => simp [intOf]; omega
              · have t32 : ((S[0].toNat : Int) == 32) = false := ne32 e32
                have hnx := lines_next hx (unhide HC1) (unhide HC2)
                simp [id, e10, e32] at hnx
                have HNx := hide hnx
                clear hnx
                go_wp2
                go_roundw
                case rel => exact ⟨1, m, k, by go_num, by go_num, by go_num, by omega, by omega, by omega, by have := (unhide HNx).1; (try simp); omega, by have := (unhide HNx).2; (try simp); omega, trivial⟩
                case measure => simp [intOf]; omega
            · have tmo : decide (((0 : Nat) : Int) + 1 < tl) = false := by simpa using hmo
              have hyn : TT[0 + 1]? = none := List.getElem?_eq_none (by have := unhide HTl2; omega)
              have hnx := lines_next hx (unhide HC1) (unhide HC2)
              simp [id, e10, hyn] at hnx
              have HNx := hide hnx
              clear hnx
              go_wp2
              go_roundw
              case rel => exact ⟨1, m, k, by go_num, by go_num, by go_num, by omega, by omega, by omega, by have := (unhide HNx).1; (try simp); omega, by have := (unhide HNx).2; (try simp); omega, trivial⟩
              case measure => simp [intOf]; omega
        have ti0 : ((i : Int) == 0) = false := by simp; omega
        obtain ⟨j, rfl⟩ : ∃ j, i = j + 1 := ⟨i - 1, by omega⟩
        have hjS : j < S.size := by omega
        have wj : wrap64 (((j + 1 : Nat) : Int) - 1) = j := by have := unhide H6; unfold wrap64; omega
        have wj2 : ((j + 1 : Nat) : Int) - 1 = j := by omega
        have hp := str_at (unhide HST) hjS
        by_cases p10 : S[j] = 10
        · have tp10 : ((S[j].toNat : Int) == 10) = true := by rw [p10]; rfl
          by_cases e10 : S[j + 1] = 10
          · have t10 : ((S[j + 1].toNat : Int) == 10) = true := by rw [e10]; rfl
            by_cases hmo : ((j + 1 : Nat) : Int) + 1 < tl
            · have hmS : j + 1 + 1 < S.size := by omega
              have hmo2 : (((j + 1 : Nat) + 1 : Nat) : Int) < tl := by omega
              have hy := str_at (unhide HST) hmS
              have t32 : ((S[j + 1].toNat : Int) == 32) = false := by rw [e10]; rfl
              have hnx := lines_next hx (unhide HC1) (unhide HC2)
              simp [hp, p10, e10, e10] at hnx
              have HNx := hide hnx
              clear hnx
              go_wp2
              go_roundw
              case rel => exact ⟨j + 1 + 1, m + 1, k, by go_num, by go_num, by go_num, by omega, by omega, by omega, by have := (unhide HNx).1; (try simp); omega, by have := (unhide HNx).2; (try simp); omega, trivial⟩
              case measure => simp [intOf]; omega
            · have tmo : decide (((j + 1 : Nat) : Int) + 1 < tl) = false := by simpa using hmo
              have hyn : TT[j + 1 + 1]? = none := List.getElem?_eq_none (by have := unhide HTl2; omega)
              have hnx := lines_next hx (unhide HC1) (unhide HC2)
              simp [hp, p10, e10, hyn] at hnx
              have HNx := hide hnx
              clear hnx
              go_wp2
              go_roundw
              case rel => exact ⟨j + 1 + 1, m + 1, k, by go_num, by go_num, by go_num, by omega, by omega, by omega, by have := (unhide HNx).1; (try simp); omega, by have := (unhide HNx).2; (try simp); omega, trivial⟩
              case measure => simp [intOf]; omega
          · have t10 : ((S[j + 1].toNat : Int) == 10) = false := ne10 e10
            by_cases hmo : ((j + 1 : Nat) : Int) + 1 < tl
            · have hmS : j + 1 + 1 < S.size := by omega
              have hmo2 : (((j + 1 : Nat) + 1 : Nat) : Int) < tl := by omega
              have hy := str_at (unhide HST) hmS
              by_cases e32 : S[j + 1] = 32
              · have t32 : ((S[j + 1].toNat : Int) == 32) = true := by rw [e32]; rfl
                by_cases f32 : S[j + 1 + 1] = 32
                · have u32 : ((S[j + 1 + 1].toNat : Int) == 32) = true := by rw [f32]; rfl
                  have hnx := lines_next hx (unhide HC1) (unhide HC2)
                  simp [hp, p10, e10, e32, hy, f32] at hnx
                  have HNx := hide hnx
                  clear hnx
                  go_wp2
                  go_roundw
                  case rel => exact ⟨j + 1 + 1, m, k + 1, by go_num, by go_num, by go_num, by omega, by omega, by omega, by have := (unhide HNx).1; (try simp); omega, by have := (unhide HNx).2; (try simp); omega, trivial⟩
                  case measure => simp [intOf]; omega
                · have u32 : ((S[j + 1 + 1].toNat : Int) == 32) = false := ne32 f32
                  have hnx := lines_next hx (unhide HC1) (unhide HC2)
                  simp [hp, p10, e10, e32, hy, f32] at hnx
                  have HNx := hide hnx
                  clear hnx
                  go_wp2
                  go_roundw
                  case rel => exact ⟨j + 1 + 1, m, k, by go_num, by go_num, by go_num, by omega, by omega, by omega, by have := (unhide HNx).1; (try simp); omega, by have := (unhide HNx).2; (try simp); omega, trivial⟩
                  case measure => simp [intOf]; omega
              · have t32 : ((S[j + 1].toNat : Int) == 32) = false := ne32 e32
                have hnx := lines_next hx (unhide HC1) (unhide HC2)
                simp [hp, p10, e10, e32] at hnx
                have HNx := hide hnx
                clear hnx
                go_wp2
                go_roundw
                case rel => exact ⟨j + 1 + 1, m, k, by go_num, by go_num, by go_num, by omega, by omega, by omega, by have := (unhide HNx).1; (try simp); omega, by have := (unhide HNx).2; (try simp); omega, trivial⟩
                case measure => simp [intOf]; omega
            · have tmo : decide (((j + 1 : Nat) : Int) + 1 < tl) = false := by simpa using hmo
              have hyn : TT[j + 1 + 1]? = none := List.getElem?_eq_none (by have := unhide HTl2; omega)
              have hnx := lines_next hx (unhide HC1) (unhide HC2)
              simp [hp, p10, e10, hyn] at hnx
              have HNx := hide hnx
              clear hnx
              go_wp2
              go_roundw
              case rel => exact ⟨j + 1 + 1, m, k, by go_num, by go_num, by go_num, by omega, by omega, by omega, by have := (unhide HNx).1; (try simp); omega, by have := (unhide HNx).2; (try simp); omega, trivial⟩
              case measure => simp [intOf]; omega
        · have tp10 : ((S[j].toNat : Int) == 10) = false := ne10 p10
          by_cases e10 : S[j + 1] = 10
          · have t10 : ((S[j + 1].toNat : Int) == 10) = true := by rw [e10]; rfl
            have hnx := lines_next hx (unhide HC1) (unhide HC2)
            simp [hp, p10, e10] at hnx
            have HNx := hide hnx
            clear hnx
            go_wp2
            go_roundw
            case rel => exact ⟨j + 1 + 1, m + 1, k, by go_num, by go_num, by go_num, by omega, by omega, by omega, by have := (unhide HNx).1; (try simp); omega, by have := (unhide HNx).2; (try simp); omega, trivial⟩
            case measure => simp [intOf]; omega
          · have t10 : ((S[j + 1].toNat : Int) == 10) = false := ne10 e10
            have hnx := lines_next hx (unhide HC1) (unhide HC2)
            simp [hp, p10, e10] at hnx
            have HNx := hide hnx
            clear hnx
            go_wp2
            go_roundw
            case rel => exact ⟨j + 1 + 1, m, k, by go_num, by go_num, by go_num, by omega, by omega, by omega, by have := (unhide HNx).1; (try simp); omega, by have := (unhide HNx).2; (try simp); omega, trivial⟩
            case measure => simp [intOf]; omega
      · obtain rfl : tl = i := by omega
        have hd : TT.drop tl = [] := List.drop_eq_nil_of_le (by have := unhide HTl2; omega)
        have e1 := unhide HC1; have e2 := unhide HC2
        rw [hd] at e1 e2
        simp only [List.count_nil, inB, Nat.add_zero] at e1 e2
        have g1 : m = 1 + c.bl.length + siz c.bl := by rw [e1]; exact (unhide HTL).1
        have g2 : k = siz c.bl := by rw [e2]; exact (unhide HTL).2
        subst g1
        subst g2
        have hz2 : (siz c.bl : Int) ≤ 1500 := by have := unhide HZ2; omega
        have hl2 : (c.bl.length : Int) ≤ 200 := by have := unhide HLen; omega
        have HKK := hide (fun (W : World) (h : Below W1.heap.size W1 W) => (unhide HCl W h))
        have tS : decide ((tl : Int) < (S.size : Int)) = false := by simp; omega
        clear hd e1 e2 hi hm hk hlt HC1 HC2 HTL H6 HST HTl2 hSz
        generalize siz c.bl = sz at *
        generalize hnn : c.bl.length = n at *
        go_wp2_with fail
        have hb5d : Below W1.heap.size W1 wr.drew := (unhide HB5).trans ((Below.refl _ _).drew.mono (unhide HB5).size)
        have HB5d := hide hb5d
        have hk5 := (unhide HCl wr (unhide HB5)).1
        have a1 : IntKind.i64.wrap (1 + (n : Int)) = 1 + (n : Int) := by rw [IntKind.wrap_i64]; omega
        have a2 : IntKind.i64.wrap (1 + (n : Int) + (sz : Int)) = 1 + (n : Int) + (sz : Int) := by rw [IntKind.wrap_i64]; omega
        have HWd := hide (unhide HCl wr.drew hb5d)
        clear hb5d
        go_region_held3 (fun W => W.cell? ⟨w.heap.size, 0, none⟩ = some (.int .i64 c.pa) ∧ W.cell? ⟨w.heap.size, 1, none⟩ = some (.int .i64 c.re) ∧ W.cell? ⟨w.heap.size, 2, none⟩ = some (.bool c.rs) ∧ W.cell? ⟨w.heap.size, 3, none⟩ = some (.slice a n cp) ∧ w.heap.size < W.heap.size)
          (first | go_keep | exact hk5)
          (first
            | (go_at_call 12; refine (unhide HSz _ (unhide HWd).2).mono ?_; rintro e w11 ⟨rfl, hb11⟩; have HB5d := hide ((unhide HB5d).trans (hb11.mono (unhide HB5d).size)); have HWd := hide (unhide HCl w11 (unhide HB5d)); clear hb11; have hk5 := (unhide HWd).1)
            | (go_at_call 8; refine (unhide HSu _ (unhide HWd).2).mono ?_; rintro e w14 ⟨rfl, hb14⟩; have HB5d := hide ((unhide HB5d).trans (hb14.mono (unhide HB5d).size)); have HWd := hide (unhide HCl w14 (unhide HB5d)); clear hb14; have hk5 := (unhide HWd).1)
            | fail)
        all_goals
          rename_i hHeld
          clear hHeld hk5
          have HBF := hide (unhide HWd).2
          go_wp2
          go_ret
          exact ⟨rfl, unhide HBF⟩
  · rw [if_neg h6, if_neg h6, errV_2]
    clear h6 HTl
    generalize str [] = S at *
    go_wp2_with fail
    refine (unhide HNu w5 (unhide HBe5)).mono ?_
    rintro e w6 ⟨rfl, hb6⟩
    have HB6 := hide ((unhide HBe5).trans (hb6.mono (unhide HBe5).size))
    clear hb6
    go_wp2_with fail
    refine (unhide HSu w6 (unhide HB6)).mono ?_
    rintro e w7 ⟨rfl, hb7⟩
    have HB7 := hide ((unhide HB6).trans (hb7.mono (unhide HB6).size))
    clear hb7
    go_wp2
    go_ret
    exact ⟨rfl, unhide HB7⟩
end Vc
end Go.Proofs.YtlihhncloanbhaaDoor
