/- The reader's instr: of each form but those of blocks. -/
import Derived.Test.YtjhmglefejclpaaDoorExB
namespace Go.Proofs.YtjhmglefejclpaaDoor
open Go.RowKit
namespace Ex
set_option linter.unusedVariables false

def IsSl (v : Value) : Prop := ∃ a l c, v = .slice a l c
/-- how instr comes back -/
def InsPost (w : World) (N : Nat) (a : Option Addr) (len cap : Nat) (zs : List Int) (R : Out Ins) (e : Ending) (w' : World) : Prop :=
  ∃ (i : Ins) (vb ve vl : Value), e = .returned (.agg #[.int .u8 i.op, .int .i64 i.n, .int .u32 i.al, .int .u32 i.of, .int .u8 i.re, vb, ve, vl]) ∧ Rd w' N a len cap zs R.at_ R.k R.e ∧ Tn N w w' ∧ (IsSl vb ∧ IsSl ve ∧ IsSl vl) ∧
    (R.e = 0 → i = R.v ∧ Code w' (w.heap.size ≤ ·) i.body vb ∧ Code w' (w.heap.size ≤ ·) i.els ve ∧ Lies (w.heap.size ≤ ·) i.ls.length (Lab w' i.ls) vl)
theorem part_f {β : Type} (p : Part) (k : Nat) (d : β) (F : Int → β) : (p.on k d fun a v => ⟨0, a, k, F v⟩).e = p.e ∧ (p.on k d fun a v => ⟨0, a, k, F v⟩).at_ = p.at_ ∧ (p.on k d fun a v => ⟨0, a, k, F v⟩).k = k ∧ (p.e = 0 → (p.on k d fun a v => ⟨0, a, k, F v⟩).v = F p.v) := by
  by_cases h : p.e = 0
  · rw [Part.on_ok h]; exact ⟨h.symm, rfl, rfl, fun _ => rfl⟩
  · rw [Part.on_no h]; exact ⟨rfl, rfl, rfl, fun e => absurd e h⟩
theorem fr_of {op : Int} {x1 x2 o x4 x5 x6 : Int} (h : fam op = some ⟨x1, x2, o, x4, x5, x6⟩) : fr op = o := by simp [fr, frm, h]
theorem bx_two (w : World) (x0 x1 x2 x3 x4 x5 x6 x7 y0 y1 y2 y3 y4 y5 y6 y7 : Value) :
    Below w.heap.size w ((w.alloc (.cells #[x0, x1, x2, x3, x4, x5, x6, x7] 50)).alloc (.cells #[y0, y1, y2, y3, y4, y5, y6, y7] 50)) ∧
    Bx ((w.alloc (.cells #[x0, x1, x2, x3, x4, x5, x6, x7] 50)).alloc (.cells #[y0, y1, y2, y3, y4, y5, y6, y7] 50)) w.heap.size x0 x1 x2 x3 x4 x5 x6 x7 ∧
    Bx ((w.alloc (.cells #[x0, x1, x2, x3, x4, x5, x6, x7] 50)).alloc (.cells #[y0, y1, y2, y3, y4, y5, y6, y7] 50)) (w.heap.size + 1) y0 y1 y2 y3 y4 y5 y6 y7 ∧
    ((w.alloc (.cells #[x0, x1, x2, x3, x4, x5, x6, x7] 50)).alloc (.cells #[y0, y1, y2, y3, y4, y5, y6, y7] 50)).heap.size = w.heap.size + 2 := by
  refine ⟨two_allocs _ _ _, ?_, ?_, by simp⟩
  · have h1 : Bx (w.alloc (.cells #[x0, x1, x2, x3, x4, x5, x6, x7] 50)) w.heap.size x0 x1 x2 x3 x4 x5 x6 x7 := heap_alloc_new w _
    exact h1.below (one_alloc _ _)
  · have h1 := heap_alloc_new (w.alloc (.cells #[x0, x1, x2, x3, x4, x5, x6, x7] 50)) (.cells #[y0, y1, y2, y3, y4, y5, y6, y7] 50)
    have h2 : (w.alloc (.cells #[x0, x1, x2, x3, x4, x5, x6, x7] 50)).heap.size = w.heap.size + 1 := by simp
    rw [h2] at h1
    exact h1
theorem pU_v {zs : List Int} (hz : ∀ z ∈ zs, 0 ≤ z ∧ z ≤ 255) (p : Nat) (m : Int) : 0 ≤ (pU zs p m).v ∧ (pU zs p m).v < 4294967296 := by
  by_cases ht : Leb.tuE (zs.drop p) 32 = 0
  · have hq := tuV_32 (fun z h => hz z (List.mem_of_mem_drop h)) ht
    by_cases hm : m < Leb.tuV (zs.drop p) 32
    · rw [pU_lim ht hm]; exact ⟨Int.le_refl 0, show (0 : Int) < 4294967296 by decide⟩
    · rw [pU_ok ht hm]; exact hq
  · rw [pU_bad ht]; exact ⟨Int.le_refl 0, show (0 : Int) < 4294967296 by decide⟩
theorem pT_ins (zs : List Int) (p k : Nat) (op : Int) : ((pU zs p 256).on k (plain op) fun a1 v => (pL zs (v.toNat + 1) a1 k).on (plain op) fun a2 k2 ls => ⟨0, a2, k2, { plain op with ls := ls }⟩).e = (pT zs p k).e ∧
    ((pU zs p 256).on k (plain op) fun a1 v => (pL zs (v.toNat + 1) a1 k).on (plain op) fun a2 k2 ls => ⟨0, a2, k2, { plain op with ls := ls }⟩).at_ = (pT zs p k).at_ ∧
    ((pU zs p 256).on k (plain op) fun a1 v => (pL zs (v.toNat + 1) a1 k).on (plain op) fun a2 k2 ls => ⟨0, a2, k2, { plain op with ls := ls }⟩).k = k ∧
    ((pT zs p k).e = 0 → ((pU zs p 256).on k (plain op) fun a1 v => (pL zs (v.toNat + 1) a1 k).on (plain op) fun a2 k2 ls => ⟨0, a2, k2, { plain op with ls := ls }⟩).v = { plain op with ls := (pT zs p k).v }) := by
  unfold pT
  by_cases h : (pU zs p 256).e = 0
  · rw [Part.on_ok h, Part.on_ok h]
    have hk := pL_k zs ((pU zs p 256).v.toNat + 1) (pU zs p 256).at_ k
    generalize pL zs ((pU zs p 256).v.toNat + 1) (pU zs p 256).at_ k = R at *
    by_cases h2 : R.e = 0
    · rw [Out.on_ok h2]; exact ⟨h2.symm, rfl, hk, fun _ => rfl⟩
    · rw [Out.on_no h2]; exact ⟨rfl, rfl, hk, fun e => absurd e h2⟩
  · rw [Part.on_no h, Part.on_no h]; exact ⟨rfl, rfl, rfl, fun e => absurd e h⟩
/-- where it ends: the answer's box is written, and the reader stays -/
theorem ins_end {w wl : World} {N : Nat} {a : Option Addr} {len cap : Nat} {zs : List Int} {p k : Nat} {e : Int} (Q : Nat) (hr : Rd wl N a len cap zs p k e) (ht : Tn N w wl) (hQ : w.heap.size ≤ Q) (hN : N < w.heap.size) (hold : ∀ b o, a = some ⟨b, o, none⟩ → 0 < len → b < w.heap.size) {wf : World} (hf : Tn Q wl wf) :
    Rd wf N a len cap zs p k e ∧ Tn N w wf := ⟨hr.tn hf (by omega) (fun b o e hl => by have := hold b o e hl; omega), ht.new hf hQ⟩

set_option maxRecDepth 100000 in
set_option maxHeartbeats 3200000 in
theorem ins_0 {N len cap p k nest : Nat} {a : Option Addr} {zs : List Int} {w : World} (op : Nat) (hop : op < 256) (x : Fam) (hx : fam op = some x) (ho : x.o = 0) (h : Rd w N a len cap zs p k 0) (hT : Tb w) :
    Calls Tryd.prog 49 #[.pointer (some ⟨N, 0, none⟩), .int .u8 op, .int .i64 nest] w (InsPost w N a len cap zs (pI (D zs) zs p k nest op)) := by
  obtain ⟨x1, x2, o, x4, x5, x6⟩ := x
  simp only at ho
  subst ho
  have hfr := fr_of hx
  have hfm := fun wx hx => form_any op hop wx hx
  simp only [hx, formR, errV_0] at hfm
  obtain ⟨R, hR, hRe⟩ : ∃ R, pI (D zs) zs p k nest op = R ∧ R.e = 0 ∧ R.at_ = p ∧ R.k = k ∧ R.v = plain op := ⟨⟨0, p, k, plain op⟩, by unfold pI; rw [hfr]; rfl, rfl, rfl, rfl, rfl⟩
  rw [hR]
  have HE : Hid (R.e = 0) ∧ Hid (R.at_ = p) ∧ Hid (R.k = k) ∧ Hid (R.v = plain op) := hRe
  clear hRe
  have HF := hide hfm; have HR := hide h; have HT := hide hT; clear hfm h hT hx hR hfr
  go_enter Tryd.func49, Tryd.ntmps49
  go_wp2_with fail
  obtain ⟨hb0, b0, b1, hz⟩ := bx_two w (.int .u8 0) (.int .i64 0) (.int .u32 0) (.int .u32 0) (.int .u8 0) (.slice none 0 0) (.slice none 0 0) (.slice none 0 0) (.int .u8 op) (.int .i64 0) (.int .u32 0) (.int .u32 0) (.int .u8 0) (.slice none 0 0) (.slice none 0 0) (.slice none 0 0)
  generalize (w.alloc (.cells #[.int .u8 0, .int .i64 0, .int .u32 0, .int .u32 0, .int .u8 0, .slice none 0 0, .slice none 0 0, .slice none 0 0] 50)).alloc (.cells #[.int .u8 op, .int .i64 0, .int .u32 0, .int .u32 0, .int .u8 0, .slice none 0 0, .slice none 0 0, .slice none 0 0] 50) = w2 at *
  refine (unhide HF _ ((unhide HT).1.below hb0)).mono ?_
  rintro e w3 ⟨rfl, hb3⟩
  have hb := Below.on hb0 hb3
  have hr := (unhide HR).below hb
  have ht := Tn.of (N := N) hb
  have hT := (unhide HT).below hb
  have hN := (unhide HR).lt
  have hold := (unhide HR).old
  replace b0 := b0.below hb3
  replace b1 := b1.below hb3
  have hz3 : w.heap.size + 2 ≤ w3.heap.size := by have := hb3.size; omega
  clear hb0 hb3 hz hb HF HR HT w2
  have HR := hide hr; have HT := hide ht; have HTb := hide hT; have B0 := hide b0; have B1 := hide b1; have HN := hide hN; have HO := hide hold; have HZ := hide hz3
  clear hr ht hT b0 b1 hN hold hz3
  generalize hQ : w.heap.size = Q at *
  have HQ := hide hQ; clear hQ
  obtain ⟨c0, c1, c2, c3, c4, c5, c6, c7⟩ := (unhide B1).cs
  obtain ⟨d0, d1, d2, d3, d4, d5, d6, d7⟩ := (unhide B0).cs
  have cz := (unhide B0).fz
  have hq : Q < w3.heap.size := (unhide B0).lt
  go_wp2
  have hb := put8_bx (unhide B0) (.int .u8 op) (.int .i64 0) (.int .u32 0) (.int .u32 0) (.int .u8 0) (.slice none 0 0) (.slice none 0 0) (.slice none 0 0)
  have hf := put8_tn w3 Q (.int .u8 op) (.int .i64 0) (.int .u32 0) (.int .u32 0) (.int .u8 0) (.slice none 0 0) (.slice none 0 0) (.slice none 0 0)
  unfold put8 at hb hf
  clear c0 c1 c2 c3 c4 c5 c6 c7 d0 d1 d2 d3 d4 d5 d6 d7 cz hq
  generalize ((((((((w3.setCell ⟨Q, 0, none⟩ (.int .u8 op)).setCell ⟨Q, 1, none⟩ (.int .i64 0)).setCell ⟨Q, 2, none⟩ (.int .u32 0)).setCell ⟨Q, 3, none⟩ (.int .u32 0)).setCell ⟨Q, 4, none⟩ (.int .u8 0)).setCell ⟨Q, 5, none⟩ (.slice none 0 0)).setCell ⟨Q, 6, none⟩ (.slice none 0 0)).setCell ⟨Q, 7, none⟩ (.slice none 0 0)) = wf at *
  obtain ⟨c0, c1, c2, c3, c4, c5, c6, c7⟩ := hb.cs
  obtain ⟨g1, g2⟩ := ins_end Q (unhide HR) (unhide HT) (by have := unhide HQ; omega) (by have := unhide HN; have := unhide HQ; omega) (fun b o e hl => by have := unhide HO b o e hl; have := unhide HQ; omega) hf
  refine bodyPost_ret (v := .agg #[.int .u8 op, .int .i64 0, .int .u32 0, .int .u32 0, .int .u8 0, .slice none 0 0, .slice none 0 0, .slice none 0 0]) (by simp [results, Tryd.results49, go_sem, c0, c1, c2, c3, c4, c5, c6, c7]) rfl ?_
  refine ⟨⟨op, 0, 0, 0, 0, [], [], []⟩, .slice none 0 0, .slice none 0 0, .slice none 0 0, rfl, ?_, g2, ⟨⟨_, _, _, rfl⟩, ⟨_, _, _, rfl⟩, ⟨_, _, _, rfl⟩⟩, fun he => ?_⟩
  · rw [unhide HE.1, unhide HE.2.1, unhide HE.2.2.1]; exact g1
  · exact ⟨(unhide HE.2.2.2).symm, Code_nil _ _, Code_nil _ _, Labs_nil _ _⟩

set_option maxRecDepth 100000 in
set_option maxHeartbeats 3200000 in
theorem ins_1 {N len cap p k nest : Nat} {a : Option Addr} {zs : List Int} {w : World} (op : Nat) (hop : op < 256) (x : Fam) (hx : fam op = some x) (ho : x.o = 1) (h : Rd w N a len cap zs p k 0) (hT : Tb w) :
    Calls Tryd.prog 49 #[.pointer (some ⟨N, 0, none⟩), .int .u8 op, .int .i64 nest] w (InsPost w N a len cap zs (pI (D zs) zs p k nest op)) := by
  obtain ⟨x1, x2, o, x4, x5, x6⟩ := x
  simp only at ho
  subst ho
  have hfr := fr_of hx
  have hfm := fun wx hx => form_any op hop wx hx
  simp only [hx, formR, errV_0] at hfm
  have hR : _ ∧ _ ∧ _ ∧ _ := part_f (pS zs p 32) k (plain op) (fun v => { plain op with n := v })
  have hI : pI (D zs) zs p k nest op = (pS zs p 32).on k (plain op) (fun a1 v => ⟨0, a1, k, { plain op with n := v }⟩) := by unfold pI; rw [hfr]; rfl
  rw [hI]
  generalize (pS zs p 32).on k (plain op) (fun a1 v => ⟨0, a1, k, { plain op with n := v }⟩) = R at *
  have HE : Hid (R.e = ((pS zs p 32)).e) ∧ Hid (R.at_ = ((pS zs p 32)).at_) ∧ Hid (R.k = k) ∧ Hid (((pS zs p 32)).e = 0 → R.v = { plain op with n := (pS zs p 32).v }) := hR
  clear hI
  have HF := hide hfm; have HR := hide h; have HT := hide hT; clear hfm h hT hx hR hfr
  go_enter Tryd.func49, Tryd.ntmps49
  go_wp2_with fail
  obtain ⟨hb0, b0, b1, hz⟩ := bx_two w (.int .u8 0) (.int .i64 0) (.int .u32 0) (.int .u32 0) (.int .u8 0) (.slice none 0 0) (.slice none 0 0) (.slice none 0 0) (.int .u8 op) (.int .i64 0) (.int .u32 0) (.int .u32 0) (.int .u8 0) (.slice none 0 0) (.slice none 0 0) (.slice none 0 0)
  generalize (w.alloc (.cells #[.int .u8 0, .int .i64 0, .int .u32 0, .int .u32 0, .int .u8 0, .slice none 0 0, .slice none 0 0, .slice none 0 0] 50)).alloc (.cells #[.int .u8 op, .int .i64 0, .int .u32 0, .int .u32 0, .int .u8 0, .slice none 0 0, .slice none 0 0, .slice none 0 0] 50) = w2 at *
  refine (unhide HF _ ((unhide HT).1.below hb0)).mono ?_
  rintro e w3 ⟨rfl, hb3⟩
  have hb := Below.on hb0 hb3
  have hr := (unhide HR).below hb
  have ht := Tn.of (N := N) hb
  have hT := (unhide HT).below hb
  have hN := (unhide HR).lt
  have hold := (unhide HR).old
  replace b0 := b0.below hb3
  replace b1 := b1.below hb3
  have hz3 : w.heap.size + 2 ≤ w3.heap.size := by have := hb3.size; omega
  clear hb0 hb3 hz hb HF HR HT w2
  have HR := hide hr; have HT := hide ht; have HTb := hide hT; have B0 := hide b0; have B1 := hide b1; have HN := hide hN; have HO := hide hold; have HZ := hide hz3
  clear hr ht hT b0 b1 hN hold hz3
  generalize hQ : w.heap.size = Q at *
  have HQ := hide hQ; clear hQ
  go_wp2_with fail
  refine (sg_any (unhide HR) 32 (by omega) (by omega)).mono ?_
  rintro e w4 ⟨rfl, hr, ht⟩
  have b0 := (unhide B0).tn ht (by have := unhide HN; omega)
  have b1 := (unhide B1).tn ht (by have := unhide HN; omega)
  have ht2 := Tn.on (unhide HT) ht
  clear HR HT B0 B1
  have HR := hide hr; have HT := hide ht2; have B0 := hide b0; have B1 := hide b1
  clear hr ht ht2 b0 b1
  obtain ⟨p0, p1, p2, p3, p4, p5, p6, p7⟩ := (unhide B1).cs
  have pz := (unhide B1).fz
  have hr := (unhide HR).tn (Tn.set (Q + 1) 1 w4 (.int .i64 (pS zs p 32).v)) (by have := unhide HN; omega) (fun b o e hl => by have := unhide HO b o e hl; have := unhide HQ; omega)
  have ht := (unhide HT).new (Tn.set (Q + 1) 1 w4 (.int .i64 (pS zs p 32).v)) (by have := unhide HQ; omega)
  have b1 := (unhide B1).set1 (.int .i64 (pS zs p 32).v)
  have b0 := (unhide B0).tn (Tn.set (Q + 1) 1 w4 (.int .i64 (pS zs p 32).v)) (by omega)
  clear HR HT B0 B1
  have HR := hide hr; have HT := hide ht; have B0 := hide b0; have B1 := hide b1
  clear hr ht b0 b1
  obtain ⟨c0, c1, c2, c3, c4, c5, c6, c7⟩ := (unhide B1).cs
  obtain ⟨d0, d1, d2, d3, d4, d5, d6, d7⟩ := (unhide B0).cs
  have cz := (unhide B0).fz
  have hq : Q < (w4.setCell ⟨Q + 1, 1, none⟩ (.int .i64 (pS zs p 32).v)).heap.size := (unhide B0).lt
  go_wp2
  have hb := put8_bx (unhide B0) (.int .u8 op) (.int .i64 (pS zs p 32).v) (.int .u32 0) (.int .u32 0) (.int .u8 0) (.slice none 0 0) (.slice none 0 0) (.slice none 0 0)
  have hf := put8_tn (w4.setCell ⟨Q + 1, 1, none⟩ (.int .i64 (pS zs p 32).v)) Q (.int .u8 op) (.int .i64 (pS zs p 32).v) (.int .u32 0) (.int .u32 0) (.int .u8 0) (.slice none 0 0) (.slice none 0 0) (.slice none 0 0)
  unfold put8 at hb hf
  clear c0 c1 c2 c3 c4 c5 c6 c7 d0 d1 d2 d3 d4 d5 d6 d7 cz hq p0 p1 p2 p3 p4 p5 p6 p7 pz
  generalize (((((((((w4.setCell ⟨Q + 1, 1, none⟩ (.int .i64 (pS zs p 32).v)).setCell ⟨Q, 0, none⟩ (.int .u8 op)).setCell ⟨Q, 1, none⟩ (.int .i64 (pS zs p 32).v)).setCell ⟨Q, 2, none⟩ (.int .u32 0)).setCell ⟨Q, 3, none⟩ (.int .u32 0)).setCell ⟨Q, 4, none⟩ (.int .u8 0)).setCell ⟨Q, 5, none⟩ (.slice none 0 0)).setCell ⟨Q, 6, none⟩ (.slice none 0 0)).setCell ⟨Q, 7, none⟩ (.slice none 0 0)) = wf at *
  obtain ⟨c0, c1, c2, c3, c4, c5, c6, c7⟩ := hb.cs
  obtain ⟨g1, g2⟩ := ins_end Q (unhide HR) (unhide HT) (by have := unhide HQ; omega) (by have := unhide HN; have := unhide HQ; omega) (fun b o e hl => by have := unhide HO b o e hl; have := unhide HQ; omega) hf
  refine bodyPost_ret (v := .agg #[.int .u8 op, .int .i64 (pS zs p 32).v, .int .u32 0, .int .u32 0, .int .u8 0, .slice none 0 0, .slice none 0 0, .slice none 0 0]) (by simp [results, Tryd.results49, go_sem, c0, c1, c2, c3, c4, c5, c6, c7]) rfl ?_
  refine ⟨⟨op, (pS zs p 32).v, 0, 0, 0, [], [], []⟩, .slice none 0 0, .slice none 0 0, .slice none 0 0, rfl, ?_, g2, ⟨⟨_, _, _, rfl⟩, ⟨_, _, _, rfl⟩, ⟨_, _, _, rfl⟩⟩, fun he => ?_⟩
  · rw [unhide HE.1, unhide HE.2.1, unhide HE.2.2.1]; exact g1
  · exact ⟨(unhide HE.2.2.2 (by rw [← unhide HE.1]; exact he)).symm, Code_nil _ _, Code_nil _ _, Labs_nil _ _⟩

set_option maxRecDepth 100000 in
set_option maxHeartbeats 3200000 in
theorem ins_2 {N len cap p k nest : Nat} {a : Option Addr} {zs : List Int} {w : World} (op : Nat) (hop : op < 256) (x : Fam) (hx : fam op = some x) (ho : x.o = 2) (h : Rd w N a len cap zs p k 0) (hT : Tb w) :
    Calls Tryd.prog 49 #[.pointer (some ⟨N, 0, none⟩), .int .u8 op, .int .i64 nest] w (InsPost w N a len cap zs (pI (D zs) zs p k nest op)) := by
  obtain ⟨x1, x2, o, x4, x5, x6⟩ := x
  simp only at ho
  subst ho
  have hfr := fr_of hx
  have hfm := fun wx hx => form_any op hop wx hx
  simp only [hx, formR, errV_0] at hfm
  have hR : _ ∧ _ ∧ _ ∧ _ := part_f (pS zs p 64) k (plain op) (fun v => { plain op with n := v })
  have hI : pI (D zs) zs p k nest op = (pS zs p 64).on k (plain op) (fun a1 v => ⟨0, a1, k, { plain op with n := v }⟩) := by unfold pI; rw [hfr]; rfl
  rw [hI]
  generalize (pS zs p 64).on k (plain op) (fun a1 v => ⟨0, a1, k, { plain op with n := v }⟩) = R at *
  have HE : Hid (R.e = ((pS zs p 64)).e) ∧ Hid (R.at_ = ((pS zs p 64)).at_) ∧ Hid (R.k = k) ∧ Hid (((pS zs p 64)).e = 0 → R.v = { plain op with n := (pS zs p 64).v }) := hR
  clear hI
  have HF := hide hfm; have HR := hide h; have HT := hide hT; clear hfm h hT hx hR hfr
  go_enter Tryd.func49, Tryd.ntmps49
  go_wp2_with fail
  obtain ⟨hb0, b0, b1, hz⟩ := bx_two w (.int .u8 0) (.int .i64 0) (.int .u32 0) (.int .u32 0) (.int .u8 0) (.slice none 0 0) (.slice none 0 0) (.slice none 0 0) (.int .u8 op) (.int .i64 0) (.int .u32 0) (.int .u32 0) (.int .u8 0) (.slice none 0 0) (.slice none 0 0) (.slice none 0 0)
  generalize (w.alloc (.cells #[.int .u8 0, .int .i64 0, .int .u32 0, .int .u32 0, .int .u8 0, .slice none 0 0, .slice none 0 0, .slice none 0 0] 50)).alloc (.cells #[.int .u8 op, .int .i64 0, .int .u32 0, .int .u32 0, .int .u8 0, .slice none 0 0, .slice none 0 0, .slice none 0 0] 50) = w2 at *
  refine (unhide HF _ ((unhide HT).1.below hb0)).mono ?_
  rintro e w3 ⟨rfl, hb3⟩
  have hb := Below.on hb0 hb3
  have hr := (unhide HR).below hb
  have ht := Tn.of (N := N) hb
  have hT := (unhide HT).below hb
  have hN := (unhide HR).lt
  have hold := (unhide HR).old
  replace b0 := b0.below hb3
  replace b1 := b1.below hb3
  have hz3 : w.heap.size + 2 ≤ w3.heap.size := by have := hb3.size; omega
  clear hb0 hb3 hz hb HF HR HT w2
  have HR := hide hr; have HT := hide ht; have HTb := hide hT; have B0 := hide b0; have B1 := hide b1; have HN := hide hN; have HO := hide hold; have HZ := hide hz3
  clear hr ht hT b0 b1 hN hold hz3
  generalize hQ : w.heap.size = Q at *
  have HQ := hide hQ; clear hQ
  go_wp2_with fail
  refine (sg_any (unhide HR) 64 (by omega) (by omega)).mono ?_
  rintro e w4 ⟨rfl, hr, ht⟩
  have b0 := (unhide B0).tn ht (by have := unhide HN; omega)
  have b1 := (unhide B1).tn ht (by have := unhide HN; omega)
  have ht2 := Tn.on (unhide HT) ht
  clear HR HT B0 B1
  have HR := hide hr; have HT := hide ht2; have B0 := hide b0; have B1 := hide b1
  clear hr ht ht2 b0 b1
  obtain ⟨p0, p1, p2, p3, p4, p5, p6, p7⟩ := (unhide B1).cs
  have pz := (unhide B1).fz
  have hr := (unhide HR).tn (Tn.set (Q + 1) 1 w4 (.int .i64 (pS zs p 64).v)) (by have := unhide HN; omega) (fun b o e hl => by have := unhide HO b o e hl; have := unhide HQ; omega)
  have ht := (unhide HT).new (Tn.set (Q + 1) 1 w4 (.int .i64 (pS zs p 64).v)) (by have := unhide HQ; omega)
  have b1 := (unhide B1).set1 (.int .i64 (pS zs p 64).v)
  have b0 := (unhide B0).tn (Tn.set (Q + 1) 1 w4 (.int .i64 (pS zs p 64).v)) (by omega)
  clear HR HT B0 B1
  have HR := hide hr; have HT := hide ht; have B0 := hide b0; have B1 := hide b1
  clear hr ht b0 b1
  obtain ⟨c0, c1, c2, c3, c4, c5, c6, c7⟩ := (unhide B1).cs
  obtain ⟨d0, d1, d2, d3, d4, d5, d6, d7⟩ := (unhide B0).cs
  have cz := (unhide B0).fz
  have hq : Q < (w4.setCell ⟨Q + 1, 1, none⟩ (.int .i64 (pS zs p 64).v)).heap.size := (unhide B0).lt
  go_wp2
  have hb := put8_bx (unhide B0) (.int .u8 op) (.int .i64 (pS zs p 64).v) (.int .u32 0) (.int .u32 0) (.int .u8 0) (.slice none 0 0) (.slice none 0 0) (.slice none 0 0)
  have hf := put8_tn (w4.setCell ⟨Q + 1, 1, none⟩ (.int .i64 (pS zs p 64).v)) Q (.int .u8 op) (.int .i64 (pS zs p 64).v) (.int .u32 0) (.int .u32 0) (.int .u8 0) (.slice none 0 0) (.slice none 0 0) (.slice none 0 0)
  unfold put8 at hb hf
  clear c0 c1 c2 c3 c4 c5 c6 c7 d0 d1 d2 d3 d4 d5 d6 d7 cz hq p0 p1 p2 p3 p4 p5 p6 p7 pz
  generalize (((((((((w4.setCell ⟨Q + 1, 1, none⟩ (.int .i64 (pS zs p 64).v)).setCell ⟨Q, 0, none⟩ (.int .u8 op)).setCell ⟨Q, 1, none⟩ (.int .i64 (pS zs p 64).v)).setCell ⟨Q, 2, none⟩ (.int .u32 0)).setCell ⟨Q, 3, none⟩ (.int .u32 0)).setCell ⟨Q, 4, none⟩ (.int .u8 0)).setCell ⟨Q, 5, none⟩ (.slice none 0 0)).setCell ⟨Q, 6, none⟩ (.slice none 0 0)).setCell ⟨Q, 7, none⟩ (.slice none 0 0)) = wf at *
  obtain ⟨c0, c1, c2, c3, c4, c5, c6, c7⟩ := hb.cs
  obtain ⟨g1, g2⟩ := ins_end Q (unhide HR) (unhide HT) (by have := unhide HQ; omega) (by have := unhide HN; have := unhide HQ; omega) (fun b o e hl => by have := unhide HO b o e hl; have := unhide HQ; omega) hf
  refine bodyPost_ret (v := .agg #[.int .u8 op, .int .i64 (pS zs p 64).v, .int .u32 0, .int .u32 0, .int .u8 0, .slice none 0 0, .slice none 0 0, .slice none 0 0]) (by simp [results, Tryd.results49, go_sem, c0, c1, c2, c3, c4, c5, c6, c7]) rfl ?_
  refine ⟨⟨op, (pS zs p 64).v, 0, 0, 0, [], [], []⟩, .slice none 0 0, .slice none 0 0, .slice none 0 0, rfl, ?_, g2, ⟨⟨_, _, _, rfl⟩, ⟨_, _, _, rfl⟩, ⟨_, _, _, rfl⟩⟩, fun he => ?_⟩
  · rw [unhide HE.1, unhide HE.2.1, unhide HE.2.2.1]; exact g1
  · exact ⟨(unhide HE.2.2.2 (by rw [← unhide HE.1]; exact he)).symm, Code_nil _ _, Code_nil _ _, Labs_nil _ _⟩

set_option maxRecDepth 100000 in
set_option maxHeartbeats 3200000 in
theorem ins_3 {N len cap p k nest : Nat} {a : Option Addr} {zs : List Int} {w : World} (op : Nat) (hop : op < 256) (x : Fam) (hx : fam op = some x) (ho : x.o = 3) (h : Rd w N a len cap zs p k 0) (hT : Tb w) :
    Calls Tryd.prog 49 #[.pointer (some ⟨N, 0, none⟩), .int .u8 op, .int .i64 nest] w (InsPost w N a len cap zs (pI (D zs) zs p k nest op)) := by
  obtain ⟨x1, x2, o, x4, x5, x6⟩ := x
  simp only at ho
  subst ho
  have hfr := fr_of hx
  have hfm := fun wx hx => form_any op hop wx hx
  simp only [hx, formR, errV_0] at hfm
  have hR : _ ∧ _ ∧ _ ∧ _ := part_f (pU zs p 4294967295) k (plain op) (fun v => { plain op with n := v })
  have hI : pI (D zs) zs p k nest op = (pU zs p 4294967295).on k (plain op) (fun a1 v => ⟨0, a1, k, { plain op with n := v }⟩) := by unfold pI; rw [hfr]; rfl
  rw [hI]
  generalize (pU zs p 4294967295).on k (plain op) (fun a1 v => ⟨0, a1, k, { plain op with n := v }⟩) = R at *
  have HE : Hid (R.e = ((pU zs p 4294967295)).e) ∧ Hid (R.at_ = ((pU zs p 4294967295)).at_) ∧ Hid (R.k = k) ∧ Hid (((pU zs p 4294967295)).e = 0 → R.v = { plain op with n := (pU zs p 4294967295).v }) := hR
  clear hI
  have hpv := pU_v h.row.2.1 p 4294967295
  obtain ⟨pv0, pv1⟩ := hpv
  have HF := hide hfm; have HR := hide h; have HT := hide hT; clear hfm h hT hx hR hfr
  go_enter Tryd.func49, Tryd.ntmps49
  go_wp2_with fail
  obtain ⟨hb0, b0, b1, hz⟩ := bx_two w (.int .u8 0) (.int .i64 0) (.int .u32 0) (.int .u32 0) (.int .u8 0) (.slice none 0 0) (.slice none 0 0) (.slice none 0 0) (.int .u8 op) (.int .i64 0) (.int .u32 0) (.int .u32 0) (.int .u8 0) (.slice none 0 0) (.slice none 0 0) (.slice none 0 0)
  generalize (w.alloc (.cells #[.int .u8 0, .int .i64 0, .int .u32 0, .int .u32 0, .int .u8 0, .slice none 0 0, .slice none 0 0, .slice none 0 0] 50)).alloc (.cells #[.int .u8 op, .int .i64 0, .int .u32 0, .int .u32 0, .int .u8 0, .slice none 0 0, .slice none 0 0, .slice none 0 0] 50) = w2 at *
  refine (unhide HF _ ((unhide HT).1.below hb0)).mono ?_
  rintro e w3 ⟨rfl, hb3⟩
  have hb := Below.on hb0 hb3
  have hr := (unhide HR).below hb
  have ht := Tn.of (N := N) hb
  have hT := (unhide HT).below hb
  have hN := (unhide HR).lt
  have hold := (unhide HR).old
  replace b0 := b0.below hb3
  replace b1 := b1.below hb3
  have hz3 : w.heap.size + 2 ≤ w3.heap.size := by have := hb3.size; omega
  clear hb0 hb3 hz hb HF HR HT w2
  have HR := hide hr; have HT := hide ht; have HTb := hide hT; have B0 := hide b0; have B1 := hide b1; have HN := hide hN; have HO := hide hold; have HZ := hide hz3
  clear hr ht hT b0 b1 hN hold hz3
  generalize hQ : w.heap.size = Q at *
  have HQ := hide hQ; clear hQ
  go_wp2_with fail
  refine (un_any (unhide HR)).mono ?_
  rintro e w4 ⟨rfl, hr, ht⟩
  have b0 := (unhide B0).tn ht (by have := unhide HN; omega)
  have b1 := (unhide B1).tn ht (by have := unhide HN; omega)
  have ht2 := Tn.on (unhide HT) ht
  clear HR HT B0 B1
  have HR := hide hr; have HT := hide ht2; have B0 := hide b0; have B1 := hide b1
  clear hr ht ht2 b0 b1
  obtain ⟨p0, p1, p2, p3, p4, p5, p6, p7⟩ := (unhide B1).cs
  have pz := (unhide B1).fz
  have hr := (unhide HR).tn (Tn.set (Q + 1) 1 w4 (.int .i64 (pU zs p 4294967295).v)) (by have := unhide HN; omega) (fun b o e hl => by have := unhide HO b o e hl; have := unhide HQ; omega)
  have ht := (unhide HT).new (Tn.set (Q + 1) 1 w4 (.int .i64 (pU zs p 4294967295).v)) (by have := unhide HQ; omega)
  have b1 := (unhide B1).set1 (.int .i64 (pU zs p 4294967295).v)
  have b0 := (unhide B0).tn (Tn.set (Q + 1) 1 w4 (.int .i64 (pU zs p 4294967295).v)) (by omega)
  clear HR HT B0 B1
  have HR := hide hr; have HT := hide ht; have B0 := hide b0; have B1 := hide b1
  clear hr ht b0 b1
  obtain ⟨c0, c1, c2, c3, c4, c5, c6, c7⟩ := (unhide B1).cs
  obtain ⟨d0, d1, d2, d3, d4, d5, d6, d7⟩ := (unhide B0).cs
  have cz := (unhide B0).fz
  have hq : Q < (w4.setCell ⟨Q + 1, 1, none⟩ (.int .i64 (pU zs p 4294967295).v)).heap.size := (unhide B0).lt
  go_wp2
  have hb := put8_bx (unhide B0) (.int .u8 op) (.int .i64 (pU zs p 4294967295).v) (.int .u32 0) (.int .u32 0) (.int .u8 0) (.slice none 0 0) (.slice none 0 0) (.slice none 0 0)
  have hf := put8_tn (w4.setCell ⟨Q + 1, 1, none⟩ (.int .i64 (pU zs p 4294967295).v)) Q (.int .u8 op) (.int .i64 (pU zs p 4294967295).v) (.int .u32 0) (.int .u32 0) (.int .u8 0) (.slice none 0 0) (.slice none 0 0) (.slice none 0 0)
  unfold put8 at hb hf
  clear c0 c1 c2 c3 c4 c5 c6 c7 d0 d1 d2 d3 d4 d5 d6 d7 cz hq p0 p1 p2 p3 p4 p5 p6 p7 pz
  generalize (((((((((w4.setCell ⟨Q + 1, 1, none⟩ (.int .i64 (pU zs p 4294967295).v)).setCell ⟨Q, 0, none⟩ (.int .u8 op)).setCell ⟨Q, 1, none⟩ (.int .i64 (pU zs p 4294967295).v)).setCell ⟨Q, 2, none⟩ (.int .u32 0)).setCell ⟨Q, 3, none⟩ (.int .u32 0)).setCell ⟨Q, 4, none⟩ (.int .u8 0)).setCell ⟨Q, 5, none⟩ (.slice none 0 0)).setCell ⟨Q, 6, none⟩ (.slice none 0 0)).setCell ⟨Q, 7, none⟩ (.slice none 0 0)) = wf at *
  obtain ⟨c0, c1, c2, c3, c4, c5, c6, c7⟩ := hb.cs
  obtain ⟨g1, g2⟩ := ins_end Q (unhide HR) (unhide HT) (by have := unhide HQ; omega) (by have := unhide HN; have := unhide HQ; omega) (fun b o e hl => by have := unhide HO b o e hl; have := unhide HQ; omega) hf
  refine bodyPost_ret (v := .agg #[.int .u8 op, .int .i64 (pU zs p 4294967295).v, .int .u32 0, .int .u32 0, .int .u8 0, .slice none 0 0, .slice none 0 0, .slice none 0 0]) (by simp [results, Tryd.results49, go_sem, c0, c1, c2, c3, c4, c5, c6, c7]) rfl ?_
  refine ⟨⟨op, (pU zs p 4294967295).v, 0, 0, 0, [], [], []⟩, .slice none 0 0, .slice none 0 0, .slice none 0 0, rfl, ?_, g2, ⟨⟨_, _, _, rfl⟩, ⟨_, _, _, rfl⟩, ⟨_, _, _, rfl⟩⟩, fun he => ?_⟩
  · rw [unhide HE.1, unhide HE.2.1, unhide HE.2.2.1]; exact g1
  · exact ⟨(unhide HE.2.2.2 (by rw [← unhide HE.1]; exact he)).symm, Code_nil _ _, Code_nil _ _, Labs_nil _ _⟩

set_option maxRecDepth 100000 in
set_option maxHeartbeats 3200000 in
theorem ins_5 {N len cap p k nest : Nat} {a : Option Addr} {zs : List Int} {w : World} (op : Nat) (hop : op < 256) (x : Fam) (hx : fam op = some x) (ho : x.o = 5) (h : Rd w N a len cap zs p k 0) (hT : Tb w) :
    Calls Tryd.prog 49 #[.pointer (some ⟨N, 0, none⟩), .int .u8 op, .int .i64 nest] w (InsPost w N a len cap zs (pI (D zs) zs p k nest op)) := by
  obtain ⟨x1, x2, o, x4, x5, x6⟩ := x
  simp only at ho
  subst ho
  have hfr := fr_of hx
  have hfm := fun wx hx => form_any op hop wx hx
  simp only [hx, formR, errV_0] at hfm
  have hR : _ ∧ _ ∧ _ ∧ _ := part_f (pB zs p jZ) k (plain op) (fun _ => plain op)
  have hI : pI (D zs) zs p k nest op = (pB zs p jZ).on k (plain op) (fun a1 _ => ⟨0, a1, k, plain op⟩) := by unfold pI; rw [hfr]; rfl
  rw [hI]
  generalize (pB zs p jZ).on k (plain op) (fun a1 _ => ⟨0, a1, k, plain op⟩) = R at *
  have HE : Hid (R.e = ((pB zs p jZ)).e) ∧ Hid (R.at_ = ((pB zs p jZ)).at_) ∧ Hid (R.k = k) ∧ Hid (((pB zs p jZ)).e = 0 → R.v = plain op) := hR
  clear hI
  have HF := hide hfm; have HR := hide h; have HT := hide hT; clear hfm h hT hx hR hfr
  go_enter Tryd.func49, Tryd.ntmps49
  go_wp2_with fail
  obtain ⟨hb0, b0, b1, hz⟩ := bx_two w (.int .u8 0) (.int .i64 0) (.int .u32 0) (.int .u32 0) (.int .u8 0) (.slice none 0 0) (.slice none 0 0) (.slice none 0 0) (.int .u8 op) (.int .i64 0) (.int .u32 0) (.int .u32 0) (.int .u8 0) (.slice none 0 0) (.slice none 0 0) (.slice none 0 0)
  generalize (w.alloc (.cells #[.int .u8 0, .int .i64 0, .int .u32 0, .int .u32 0, .int .u8 0, .slice none 0 0, .slice none 0 0, .slice none 0 0] 50)).alloc (.cells #[.int .u8 op, .int .i64 0, .int .u32 0, .int .u32 0, .int .u8 0, .slice none 0 0, .slice none 0 0, .slice none 0 0] 50) = w2 at *
  refine (unhide HF _ ((unhide HT).1.below hb0)).mono ?_
  rintro e w3 ⟨rfl, hb3⟩
  have hb := Below.on hb0 hb3
  have hr := (unhide HR).below hb
  have ht := Tn.of (N := N) hb
  have hT := (unhide HT).below hb
  have hN := (unhide HR).lt
  have hold := (unhide HR).old
  replace b0 := b0.below hb3
  replace b1 := b1.below hb3
  have hz3 : w.heap.size + 2 ≤ w3.heap.size := by have := hb3.size; omega
  clear hb0 hb3 hz hb HF HR HT w2
  have HR := hide hr; have HT := hide ht; have HTb := hide hT; have B0 := hide b0; have B1 := hide b1; have HN := hide hN; have HO := hide hold; have HZ := hide hz3
  clear hr ht hT b0 b1 hN hold hz3
  generalize hQ : w.heap.size = Q at *
  have HQ := hide hQ; clear hQ
  go_wp2_with fail
  refine (obZ_any (unhide HR)).mono ?_
  rintro e w4 ⟨rfl, hr, ht⟩
  have b0 := (unhide B0).tn ht (by have := unhide HN; omega)
  have b1 := (unhide B1).tn ht (by have := unhide HN; omega)
  have ht2 := Tn.on (unhide HT) ht
  clear HR HT B0 B1
  have HR := hide hr; have HT := hide ht2; have B0 := hide b0; have B1 := hide b1
  clear hr ht ht2 b0 b1
  obtain ⟨c0, c1, c2, c3, c4, c5, c6, c7⟩ := (unhide B1).cs
  obtain ⟨d0, d1, d2, d3, d4, d5, d6, d7⟩ := (unhide B0).cs
  have cz := (unhide B0).fz
  have hq : Q < w4.heap.size := (unhide B0).lt
  go_wp2
  have hb := put8_bx (unhide B0) (.int .u8 op) (.int .i64 0) (.int .u32 0) (.int .u32 0) (.int .u8 0) (.slice none 0 0) (.slice none 0 0) (.slice none 0 0)
  have hf := put8_tn w4 Q (.int .u8 op) (.int .i64 0) (.int .u32 0) (.int .u32 0) (.int .u8 0) (.slice none 0 0) (.slice none 0 0) (.slice none 0 0)
  unfold put8 at hb hf
  clear c0 c1 c2 c3 c4 c5 c6 c7 d0 d1 d2 d3 d4 d5 d6 d7 cz hq
  generalize ((((((((w4.setCell ⟨Q, 0, none⟩ (.int .u8 op)).setCell ⟨Q, 1, none⟩ (.int .i64 0)).setCell ⟨Q, 2, none⟩ (.int .u32 0)).setCell ⟨Q, 3, none⟩ (.int .u32 0)).setCell ⟨Q, 4, none⟩ (.int .u8 0)).setCell ⟨Q, 5, none⟩ (.slice none 0 0)).setCell ⟨Q, 6, none⟩ (.slice none 0 0)).setCell ⟨Q, 7, none⟩ (.slice none 0 0)) = wf at *
  obtain ⟨c0, c1, c2, c3, c4, c5, c6, c7⟩ := hb.cs
  obtain ⟨g1, g2⟩ := ins_end Q (unhide HR) (unhide HT) (by have := unhide HQ; omega) (by have := unhide HN; have := unhide HQ; omega) (fun b o e hl => by have := unhide HO b o e hl; have := unhide HQ; omega) hf
  refine bodyPost_ret (v := .agg #[.int .u8 op, .int .i64 0, .int .u32 0, .int .u32 0, .int .u8 0, .slice none 0 0, .slice none 0 0, .slice none 0 0]) (by simp [results, Tryd.results49, go_sem, c0, c1, c2, c3, c4, c5, c6, c7]) rfl ?_
  refine ⟨⟨op, 0, 0, 0, 0, [], [], []⟩, .slice none 0 0, .slice none 0 0, .slice none 0 0, rfl, ?_, g2, ⟨⟨_, _, _, rfl⟩, ⟨_, _, _, rfl⟩, ⟨_, _, _, rfl⟩⟩, fun he => ?_⟩
  · rw [unhide HE.1, unhide HE.2.1, unhide HE.2.2.1]; exact g1
  · exact ⟨(unhide HE.2.2.2 (by rw [← unhide HE.1]; exact he)).symm, Code_nil _ _, Code_nil _ _, Labs_nil _ _⟩

set_option maxRecDepth 100000 in
set_option maxHeartbeats 3200000 in
theorem ins_4_ok {N len cap p k nest : Nat} {a : Option Addr} {zs : List Int} {w : World} (op : Nat) (hop : op < 256) (x : Fam) (hx : fam op = some x) (ho : x.o = 4) (h : Rd w N a len cap zs p k 0) (hT : Tb w) (hP : (pU zs p 4294967295).e = 0) :
    Calls Tryd.prog 49 #[.pointer (some ⟨N, 0, none⟩), .int .u8 op, .int .i64 nest] w (InsPost w N a len cap zs (pI (D zs) zs p k nest op)) := by
  obtain ⟨x1, x2, o, x4, x5, x6⟩ := x
  simp only at ho
  subst ho
  have hfr := fr_of hx
  have hfm := fun wx hx => form_any op hop wx hx
  simp only [hx, formR, errV_0] at hfm
  have hR := part_f (pU zs (pU zs p 4294967295).at_ 4294967295) k (plain op) (fun u => { plain op with al := (pU zs p 4294967295).v, of := u })
  have hI : pI (D zs) zs p k nest op = (pU zs (pU zs p 4294967295).at_ 4294967295).on k (plain op) (fun a2 u => ⟨0, a2, k, { plain op with al := (pU zs p 4294967295).v, of := u }⟩) := by unfold pI; rw [hfr, if_neg (by decide), if_neg (by decide), if_neg (by decide), if_pos rfl, Part.on_ok hP]
  rw [hI]
  generalize (pU zs (pU zs p 4294967295).at_ 4294967295).on k (plain op) (fun a2 u => ⟨0, a2, k, { plain op with al := (pU zs p 4294967295).v, of := u }⟩) = R at *
  have HE : Hid (R.e = (pU zs (pU zs p 4294967295).at_ 4294967295).e) ∧ Hid (R.at_ = (pU zs (pU zs p 4294967295).at_ 4294967295).at_) ∧ Hid (R.k = k) ∧ Hid ((pU zs (pU zs p 4294967295).at_ 4294967295).e = 0 → R.v = { plain op with al := (pU zs p 4294967295).v, of := (pU zs (pU zs p 4294967295).at_ 4294967295).v }) := hR
  clear hI
  have HP := hide hP; clear hP
  have HF := hide hfm; have HR := hide h; have HT := hide hT; clear hfm h hT hx hR hfr
  go_enter Tryd.func49, Tryd.ntmps49
  go_wp2_with fail
  obtain ⟨hb0, b0, b1, hz⟩ := bx_two w (.int .u8 0) (.int .i64 0) (.int .u32 0) (.int .u32 0) (.int .u8 0) (.slice none 0 0) (.slice none 0 0) (.slice none 0 0) (.int .u8 op) (.int .i64 0) (.int .u32 0) (.int .u32 0) (.int .u8 0) (.slice none 0 0) (.slice none 0 0) (.slice none 0 0)
  generalize (w.alloc (.cells #[.int .u8 0, .int .i64 0, .int .u32 0, .int .u32 0, .int .u8 0, .slice none 0 0, .slice none 0 0, .slice none 0 0] 50)).alloc (.cells #[.int .u8 op, .int .i64 0, .int .u32 0, .int .u32 0, .int .u8 0, .slice none 0 0, .slice none 0 0, .slice none 0 0] 50) = w2 at *
  refine (unhide HF _ ((unhide HT).1.below hb0)).mono ?_
  rintro e w3 ⟨rfl, hb3⟩
  have hb := Below.on hb0 hb3
  have hr := (unhide HR).below hb
  have ht := Tn.of (N := N) hb
  have hT := (unhide HT).below hb
  have hN := (unhide HR).lt
  have hold := (unhide HR).old
  replace b0 := b0.below hb3
  replace b1 := b1.below hb3
  have hz3 : w.heap.size + 2 ≤ w3.heap.size := by have := hb3.size; omega
  clear hb0 hb3 hz hb HF HR HT w2
  have HR := hide hr; have HT := hide ht; have HTb := hide hT; have B0 := hide b0; have B1 := hide b1; have HN := hide hN; have HO := hide hold; have HZ := hide hz3
  clear hr ht hT b0 b1 hN hold hz3
  generalize hQ : w.heap.size = Q at *
  have HQ := hide hQ; clear hQ
  go_wp2_with fail
  refine (un_any (unhide HR)).mono ?_
  rintro e w4 ⟨rfl, hr, ht⟩
  rw [unhide HP] at hr
  have b0 := (unhide B0).tn ht (by have := unhide HN; omega)
  have b1 := (unhide B1).tn ht (by have := unhide HN; omega)
  have ht2 := Tn.on (unhide HT) ht
  clear HR HT B0 B1
  have HR := hide hr; have HT := hide ht2; have B0 := hide b0; have B1 := hide b1
  clear hr ht ht2 b0 b1
  obtain ⟨p0, p1, p2, p3, p4, p5, p6, p7⟩ := (unhide B1).cs
  have pz := (unhide B1).fz
  have hr := (unhide HR).tn (Tn.set (Q + 1) 2 w4 (.int .u32 (pU zs p 4294967295).v)) (by have := unhide HN; omega) (fun b o e hl => by have := unhide HO b o e hl; have := unhide HQ; omega)
  have ht := (unhide HT).new (Tn.set (Q + 1) 2 w4 (.int .u32 (pU zs p 4294967295).v)) (by have := unhide HQ; omega)
  have b1 := (unhide B1).set2 (.int .u32 (pU zs p 4294967295).v)
  have b0 := (unhide B0).tn (Tn.set (Q + 1) 2 w4 (.int .u32 (pU zs p 4294967295).v)) (by omega)
  clear HR HT B0 B1
  have HR := hide hr; have HT := hide ht; have B0 := hide b0; have B1 := hide b1
  clear hr ht b0 b1
  go_wp2_with fail
  generalize w4.setCell ⟨Q + 1, 2, none⟩ (.int .u32 (pU zs p 4294967295).v) = w5 at *
  clear p0 p1 p2 p3 p4 p5 p6 p7 pz
  go_wp2_with fail
  refine (un_any (unhide HR)).mono ?_
  rintro e w6 ⟨rfl, hr, ht⟩
  have b0 := (unhide B0).tn ht (by have := unhide HN; omega)
  have b1 := (unhide B1).tn ht (by have := unhide HN; omega)
  have ht2 := Tn.on (unhide HT) ht
  clear HR HT B0 B1
  have HR := hide hr; have HT := hide ht2; have B0 := hide b0; have B1 := hide b1
  clear hr ht ht2 b0 b1
  obtain ⟨p0, p1, p2, p3, p4, p5, p6, p7⟩ := (unhide B1).cs
  have pz := (unhide B1).fz
  have hr := (unhide HR).tn (Tn.set (Q + 1) 3 w6 (.int .u32 (pU zs (pU zs p 4294967295).at_ 4294967295).v)) (by have := unhide HN; omega) (fun b o e hl => by have := unhide HO b o e hl; have := unhide HQ; omega)
  have ht := (unhide HT).new (Tn.set (Q + 1) 3 w6 (.int .u32 (pU zs (pU zs p 4294967295).at_ 4294967295).v)) (by have := unhide HQ; omega)
  have b1 := (unhide B1).set3 (.int .u32 (pU zs (pU zs p 4294967295).at_ 4294967295).v)
  have b0 := (unhide B0).tn (Tn.set (Q + 1) 3 w6 (.int .u32 (pU zs (pU zs p 4294967295).at_ 4294967295).v)) (by omega)
  clear HR HT B0 B1
  have HR := hide hr; have HT := hide ht; have B0 := hide b0; have B1 := hide b1
  clear hr ht b0 b1
  obtain ⟨c0, c1, c2, c3, c4, c5, c6, c7⟩ := (unhide B1).cs
  obtain ⟨d0, d1, d2, d3, d4, d5, d6, d7⟩ := (unhide B0).cs
  have cz := (unhide B0).fz
  have hq : Q < (w6.setCell ⟨Q + 1, 3, none⟩ (.int .u32 (pU zs (pU zs p 4294967295).at_ 4294967295).v)).heap.size := (unhide B0).lt
  go_wp2
  have hb := put8_bx (unhide B0) (.int .u8 op) (.int .i64 0) (.int .u32 (pU zs p 4294967295).v) (.int .u32 (pU zs (pU zs p 4294967295).at_ 4294967295).v) (.int .u8 0) (.slice none 0 0) (.slice none 0 0) (.slice none 0 0)
  have hf := put8_tn (w6.setCell ⟨Q + 1, 3, none⟩ (.int .u32 (pU zs (pU zs p 4294967295).at_ 4294967295).v)) Q (.int .u8 op) (.int .i64 0) (.int .u32 (pU zs p 4294967295).v) (.int .u32 (pU zs (pU zs p 4294967295).at_ 4294967295).v) (.int .u8 0) (.slice none 0 0) (.slice none 0 0) (.slice none 0 0)
  unfold put8 at hb hf
  clear c0 c1 c2 c3 c4 c5 c6 c7 d0 d1 d2 d3 d4 d5 d6 d7 cz hq p0 p1 p2 p3 p4 p5 p6 p7 pz
  generalize (((((((((w6.setCell ⟨Q + 1, 3, none⟩ (.int .u32 (pU zs (pU zs p 4294967295).at_ 4294967295).v)).setCell ⟨Q, 0, none⟩ (.int .u8 op)).setCell ⟨Q, 1, none⟩ (.int .i64 0)).setCell ⟨Q, 2, none⟩ (.int .u32 (pU zs p 4294967295).v)).setCell ⟨Q, 3, none⟩ (.int .u32 (pU zs (pU zs p 4294967295).at_ 4294967295).v)).setCell ⟨Q, 4, none⟩ (.int .u8 0)).setCell ⟨Q, 5, none⟩ (.slice none 0 0)).setCell ⟨Q, 6, none⟩ (.slice none 0 0)).setCell ⟨Q, 7, none⟩ (.slice none 0 0)) = wf at *
  obtain ⟨c0, c1, c2, c3, c4, c5, c6, c7⟩ := hb.cs
  obtain ⟨g1, g2⟩ := ins_end Q (unhide HR) (unhide HT) (by have := unhide HQ; omega) (by have := unhide HN; have := unhide HQ; omega) (fun b o e hl => by have := unhide HO b o e hl; have := unhide HQ; omega) hf
  refine bodyPost_ret (v := .agg #[.int .u8 op, .int .i64 0, .int .u32 (pU zs p 4294967295).v, .int .u32 (pU zs (pU zs p 4294967295).at_ 4294967295).v, .int .u8 0, .slice none 0 0, .slice none 0 0, .slice none 0 0]) (by simp [results, Tryd.results49, go_sem, c0, c1, c2, c3, c4, c5, c6, c7]) rfl ?_
  refine ⟨⟨op, 0, (pU zs p 4294967295).v, (pU zs (pU zs p 4294967295).at_ 4294967295).v, 0, [], [], []⟩, .slice none 0 0, .slice none 0 0, .slice none 0 0, rfl, ?_, g2, ⟨⟨_, _, _, rfl⟩, ⟨_, _, _, rfl⟩, ⟨_, _, _, rfl⟩⟩, fun he => ?_⟩
  · rw [unhide HE.1, unhide HE.2.1, unhide HE.2.2.1]; exact g1
  · exact ⟨(unhide HE.2.2.2 (by rw [← unhide HE.1]; exact he)).symm, Code_nil _ _, Code_nil _ _, Labs_nil _ _⟩

set_option maxRecDepth 100000 in
set_option maxHeartbeats 3200000 in
theorem ins_4_no {N len cap p k nest : Nat} {a : Option Addr} {zs : List Int} {w : World} (op : Nat) (hop : op < 256) (x : Fam) (hx : fam op = some x) (ho : x.o = 4) (h : Rd w N a len cap zs p k 0) (hT : Tb w) (hP : ¬ (pU zs p 4294967295).e = 0) :
    Calls Tryd.prog 49 #[.pointer (some ⟨N, 0, none⟩), .int .u8 op, .int .i64 nest] w (InsPost w N a len cap zs (pI (D zs) zs p k nest op)) := by
  obtain ⟨x1, x2, o, x4, x5, x6⟩ := x
  simp only at ho
  subst ho
  have hfr := fr_of hx
  have hfm := fun wx hx => form_any op hop wx hx
  simp only [hx, formR, errV_0] at hfm
  obtain ⟨R, hR, hRe⟩ : ∃ R, pI (D zs) zs p k nest op = R ∧ R.e = (pU zs p 4294967295).e ∧ R.at_ = (pU zs p 4294967295).at_ ∧ R.k = k ∧ True := ⟨⟨(pU zs p 4294967295).e, (pU zs p 4294967295).at_, k, plain op⟩, by unfold pI; rw [hfr, if_neg (by decide), if_neg (by decide), if_neg (by decide), if_pos rfl, Part.on_no hP], rfl, rfl, rfl, trivial⟩
  rw [hR]
  have HE : Hid (R.e = (pU zs p 4294967295).e) ∧ Hid (R.at_ = (pU zs p 4294967295).at_) ∧ Hid (R.k = k) ∧ Hid True := hRe
  clear hRe
  have HP := hide hP; clear hP
  have HF := hide hfm; have HR := hide h; have HT := hide hT; clear hfm h hT hx hR hfr
  go_enter Tryd.func49, Tryd.ntmps49
  go_wp2_with fail
  obtain ⟨hb0, b0, b1, hz⟩ := bx_two w (.int .u8 0) (.int .i64 0) (.int .u32 0) (.int .u32 0) (.int .u8 0) (.slice none 0 0) (.slice none 0 0) (.slice none 0 0) (.int .u8 op) (.int .i64 0) (.int .u32 0) (.int .u32 0) (.int .u8 0) (.slice none 0 0) (.slice none 0 0) (.slice none 0 0)
  generalize (w.alloc (.cells #[.int .u8 0, .int .i64 0, .int .u32 0, .int .u32 0, .int .u8 0, .slice none 0 0, .slice none 0 0, .slice none 0 0] 50)).alloc (.cells #[.int .u8 op, .int .i64 0, .int .u32 0, .int .u32 0, .int .u8 0, .slice none 0 0, .slice none 0 0, .slice none 0 0] 50) = w2 at *
  refine (unhide HF _ ((unhide HT).1.below hb0)).mono ?_
  rintro e w3 ⟨rfl, hb3⟩
  have hb := Below.on hb0 hb3
  have hr := (unhide HR).below hb
  have ht := Tn.of (N := N) hb
  have hT := (unhide HT).below hb
  have hN := (unhide HR).lt
  have hold := (unhide HR).old
  replace b0 := b0.below hb3
  replace b1 := b1.below hb3
  have hz3 : w.heap.size + 2 ≤ w3.heap.size := by have := hb3.size; omega
  clear hb0 hb3 hz hb HF HR HT w2
  have HR := hide hr; have HT := hide ht; have HTb := hide hT; have B0 := hide b0; have B1 := hide b1; have HN := hide hN; have HO := hide hold; have HZ := hide hz3
  clear hr ht hT b0 b1 hN hold hz3
  generalize hQ : w.heap.size = Q at *
  have HQ := hide hQ; clear hQ
  go_wp2_with fail
  refine (un_any (unhide HR)).mono ?_
  rintro e w4 ⟨rfl, hr, ht⟩
  have b0 := (unhide B0).tn ht (by have := unhide HN; omega)
  have b1 := (unhide B1).tn ht (by have := unhide HN; omega)
  have ht2 := Tn.on (unhide HT) ht
  clear HR HT B0 B1
  have HR := hide hr; have HT := hide ht2; have B0 := hide b0; have B1 := hide b1
  clear hr ht ht2 b0 b1
  obtain ⟨p0, p1, p2, p3, p4, p5, p6, p7⟩ := (unhide B1).cs
  have pz := (unhide B1).fz
  have hr := (unhide HR).tn (Tn.set (Q + 1) 2 w4 (.int .u32 (pU zs p 4294967295).v)) (by have := unhide HN; omega) (fun b o e hl => by have := unhide HO b o e hl; have := unhide HQ; omega)
  have ht := (unhide HT).new (Tn.set (Q + 1) 2 w4 (.int .u32 (pU zs p 4294967295).v)) (by have := unhide HQ; omega)
  have b1 := (unhide B1).set2 (.int .u32 (pU zs p 4294967295).v)
  have b0 := (unhide B0).tn (Tn.set (Q + 1) 2 w4 (.int .u32 (pU zs p 4294967295).v)) (by omega)
  clear HR HT B0 B1
  have HR := hide hr; have HT := hide ht; have B0 := hide b0; have B1 := hide b1
  clear hr ht b0 b1
  go_wp2_with fail
  generalize w4.setCell ⟨Q + 1, 2, none⟩ (.int .u32 (pU zs p 4294967295).v) = w5 at *
  clear p0 p1 p2 p3 p4 p5 p6 p7 pz
  go_wp2_with fail
  refine (un_err (unhide HR) (unhide HP)).mono ?_
  rintro e w6 ⟨rfl, hr, ht⟩
  have b0 := (unhide B0).tn ht (by have := unhide HN; omega)
  have b1 := (unhide B1).tn ht (by have := unhide HN; omega)
  have ht2 := Tn.on (unhide HT) ht
  clear HR HT B0 B1
  have HR := hide hr; have HT := hide ht2; have B0 := hide b0; have B1 := hide b1
  clear hr ht ht2 b0 b1
  obtain ⟨p0, p1, p2, p3, p4, p5, p6, p7⟩ := (unhide B1).cs
  have pz := (unhide B1).fz
  have hr := (unhide HR).tn (Tn.set (Q + 1) 3 w6 (.int .u32 0)) (by have := unhide HN; omega) (fun b o e hl => by have := unhide HO b o e hl; have := unhide HQ; omega)
  have ht := (unhide HT).new (Tn.set (Q + 1) 3 w6 (.int .u32 0)) (by have := unhide HQ; omega)
  have b1 := (unhide B1).set3 (.int .u32 0)
  have b0 := (unhide B0).tn (Tn.set (Q + 1) 3 w6 (.int .u32 0)) (by omega)
  clear HR HT B0 B1
  have HR := hide hr; have HT := hide ht; have B0 := hide b0; have B1 := hide b1
  clear hr ht b0 b1
  obtain ⟨c0, c1, c2, c3, c4, c5, c6, c7⟩ := (unhide B1).cs
  obtain ⟨d0, d1, d2, d3, d4, d5, d6, d7⟩ := (unhide B0).cs
  have cz := (unhide B0).fz
  have hq : Q < (w6.setCell ⟨Q + 1, 3, none⟩ (.int .u32 0)).heap.size := (unhide B0).lt
  go_wp2
  have hb := put8_bx (unhide B0) (.int .u8 op) (.int .i64 0) (.int .u32 (pU zs p 4294967295).v) (.int .u32 0) (.int .u8 0) (.slice none 0 0) (.slice none 0 0) (.slice none 0 0)
  have hf := put8_tn (w6.setCell ⟨Q + 1, 3, none⟩ (.int .u32 0)) Q (.int .u8 op) (.int .i64 0) (.int .u32 (pU zs p 4294967295).v) (.int .u32 0) (.int .u8 0) (.slice none 0 0) (.slice none 0 0) (.slice none 0 0)
  unfold put8 at hb hf
  clear c0 c1 c2 c3 c4 c5 c6 c7 d0 d1 d2 d3 d4 d5 d6 d7 cz hq p0 p1 p2 p3 p4 p5 p6 p7 pz
  generalize (((((((((w6.setCell ⟨Q + 1, 3, none⟩ (.int .u32 0)).setCell ⟨Q, 0, none⟩ (.int .u8 op)).setCell ⟨Q, 1, none⟩ (.int .i64 0)).setCell ⟨Q, 2, none⟩ (.int .u32 (pU zs p 4294967295).v)).setCell ⟨Q, 3, none⟩ (.int .u32 0)).setCell ⟨Q, 4, none⟩ (.int .u8 0)).setCell ⟨Q, 5, none⟩ (.slice none 0 0)).setCell ⟨Q, 6, none⟩ (.slice none 0 0)).setCell ⟨Q, 7, none⟩ (.slice none 0 0)) = wf at *
  obtain ⟨c0, c1, c2, c3, c4, c5, c6, c7⟩ := hb.cs
  obtain ⟨g1, g2⟩ := ins_end Q (unhide HR) (unhide HT) (by have := unhide HQ; omega) (by have := unhide HN; have := unhide HQ; omega) (fun b o e hl => by have := unhide HO b o e hl; have := unhide HQ; omega) hf
  refine bodyPost_ret (v := .agg #[.int .u8 op, .int .i64 0, .int .u32 (pU zs p 4294967295).v, .int .u32 0, .int .u8 0, .slice none 0 0, .slice none 0 0, .slice none 0 0]) (by simp [results, Tryd.results49, go_sem, c0, c1, c2, c3, c4, c5, c6, c7]) rfl ?_
  refine ⟨⟨op, 0, (pU zs p 4294967295).v, 0, 0, [], [], []⟩, .slice none 0 0, .slice none 0 0, .slice none 0 0, rfl, ?_, g2, ⟨⟨_, _, _, rfl⟩, ⟨_, _, _, rfl⟩, ⟨_, _, _, rfl⟩⟩, fun he => ?_⟩
  · rw [unhide HE.1, unhide HE.2.1, unhide HE.2.2.1]; exact g1
  · exact absurd (by rw [← unhide HE.1]; exact he) (unhide HP)

set_option maxRecDepth 100000 in
set_option maxHeartbeats 3200000 in
theorem ins_9_ok {N len cap p k nest : Nat} {a : Option Addr} {zs : List Int} {w : World} (op : Nat) (hop : op < 256) (x : Fam) (hx : fam op = some x) (ho : x.o = 9) (h : Rd w N a len cap zs p k 0) (hT : Tb w) (hP : (pU zs p 4294967295).e = 0) :
    Calls Tryd.prog 49 #[.pointer (some ⟨N, 0, none⟩), .int .u8 op, .int .i64 nest] w (InsPost w N a len cap zs (pI (D zs) zs p k nest op)) := by
  obtain ⟨x1, x2, o, x4, x5, x6⟩ := x
  simp only at ho
  subst ho
  have hfr := fr_of hx
  have hfm := fun wx hx => form_any op hop wx hx
  simp only [hx, formR, errV_0] at hfm
  have hR := part_f (pB zs (pU zs p 4294967295).at_ jZ) k (plain op) (fun _ => { plain op with n := (pU zs p 4294967295).v })
  have hI : pI (D zs) zs p k nest op = (pB zs (pU zs p 4294967295).at_ jZ).on k (plain op) (fun a2 _ => ⟨0, a2, k, { plain op with n := (pU zs p 4294967295).v }⟩) := by unfold pI; rw [hfr, if_neg (by decide), if_neg (by decide), if_neg (by decide), if_neg (by decide), if_neg (by decide), if_neg (by decide), if_pos rfl, Part.on_ok hP]
  rw [hI]
  generalize (pB zs (pU zs p 4294967295).at_ jZ).on k (plain op) (fun a2 _ => ⟨0, a2, k, { plain op with n := (pU zs p 4294967295).v }⟩) = R at *
  have HE : Hid (R.e = (pB zs (pU zs p 4294967295).at_ jZ).e) ∧ Hid (R.at_ = (pB zs (pU zs p 4294967295).at_ jZ).at_) ∧ Hid (R.k = k) ∧ Hid ((pB zs (pU zs p 4294967295).at_ jZ).e = 0 → R.v = { plain op with n := (pU zs p 4294967295).v }) := hR
  clear hI
  have HP := hide hP; clear hP
  have hpv := pU_v h.row.2.1 p 4294967295
  obtain ⟨pv0, pv1⟩ := hpv
  have HF := hide hfm; have HR := hide h; have HT := hide hT; clear hfm h hT hx hR hfr
  go_enter Tryd.func49, Tryd.ntmps49
  go_wp2_with fail
  obtain ⟨hb0, b0, b1, hz⟩ := bx_two w (.int .u8 0) (.int .i64 0) (.int .u32 0) (.int .u32 0) (.int .u8 0) (.slice none 0 0) (.slice none 0 0) (.slice none 0 0) (.int .u8 op) (.int .i64 0) (.int .u32 0) (.int .u32 0) (.int .u8 0) (.slice none 0 0) (.slice none 0 0) (.slice none 0 0)
  generalize (w.alloc (.cells #[.int .u8 0, .int .i64 0, .int .u32 0, .int .u32 0, .int .u8 0, .slice none 0 0, .slice none 0 0, .slice none 0 0] 50)).alloc (.cells #[.int .u8 op, .int .i64 0, .int .u32 0, .int .u32 0, .int .u8 0, .slice none 0 0, .slice none 0 0, .slice none 0 0] 50) = w2 at *
  refine (unhide HF _ ((unhide HT).1.below hb0)).mono ?_
  rintro e w3 ⟨rfl, hb3⟩
  have hb := Below.on hb0 hb3
  have hr := (unhide HR).below hb
  have ht := Tn.of (N := N) hb
  have hT := (unhide HT).below hb
  have hN := (unhide HR).lt
  have hold := (unhide HR).old
  replace b0 := b0.below hb3
  replace b1 := b1.below hb3
  have hz3 : w.heap.size + 2 ≤ w3.heap.size := by have := hb3.size; omega
  clear hb0 hb3 hz hb HF HR HT w2
  have HR := hide hr; have HT := hide ht; have HTb := hide hT; have B0 := hide b0; have B1 := hide b1; have HN := hide hN; have HO := hide hold; have HZ := hide hz3
  clear hr ht hT b0 b1 hN hold hz3
  generalize hQ : w.heap.size = Q at *
  have HQ := hide hQ; clear hQ
  go_wp2_with fail
  refine (un_any (unhide HR)).mono ?_
  rintro e w4 ⟨rfl, hr, ht⟩
  rw [unhide HP] at hr
  have b0 := (unhide B0).tn ht (by have := unhide HN; omega)
  have b1 := (unhide B1).tn ht (by have := unhide HN; omega)
  have ht2 := Tn.on (unhide HT) ht
  clear HR HT B0 B1
  have HR := hide hr; have HT := hide ht2; have B0 := hide b0; have B1 := hide b1
  clear hr ht ht2 b0 b1
  obtain ⟨p0, p1, p2, p3, p4, p5, p6, p7⟩ := (unhide B1).cs
  have pz := (unhide B1).fz
  have hr := (unhide HR).tn (Tn.set (Q + 1) 1 w4 (.int .i64 (pU zs p 4294967295).v)) (by have := unhide HN; omega) (fun b o e hl => by have := unhide HO b o e hl; have := unhide HQ; omega)
  have ht := (unhide HT).new (Tn.set (Q + 1) 1 w4 (.int .i64 (pU zs p 4294967295).v)) (by have := unhide HQ; omega)
  have b1 := (unhide B1).set1 (.int .i64 (pU zs p 4294967295).v)
  have b0 := (unhide B0).tn (Tn.set (Q + 1) 1 w4 (.int .i64 (pU zs p 4294967295).v)) (by omega)
  clear HR HT B0 B1
  have HR := hide hr; have HT := hide ht; have B0 := hide b0; have B1 := hide b1
  clear hr ht b0 b1
  go_wp2_with fail
  generalize w4.setCell ⟨Q + 1, 1, none⟩ (.int .i64 (pU zs p 4294967295).v) = w5 at *
  clear p0 p1 p2 p3 p4 p5 p6 p7 pz
  go_wp2_with fail
  refine (obZ_any (unhide HR)).mono ?_
  rintro e w6 ⟨rfl, hr, ht⟩
  have b0 := (unhide B0).tn ht (by have := unhide HN; omega)
  have b1 := (unhide B1).tn ht (by have := unhide HN; omega)
  have ht2 := Tn.on (unhide HT) ht
  clear HR HT B0 B1
  have HR := hide hr; have HT := hide ht2; have B0 := hide b0; have B1 := hide b1
  clear hr ht ht2 b0 b1
  obtain ⟨c0, c1, c2, c3, c4, c5, c6, c7⟩ := (unhide B1).cs
  obtain ⟨d0, d1, d2, d3, d4, d5, d6, d7⟩ := (unhide B0).cs
  have cz := (unhide B0).fz
  have hq : Q < w6.heap.size := (unhide B0).lt
  go_wp2
  have hb := put8_bx (unhide B0) (.int .u8 op) (.int .i64 (pU zs p 4294967295).v) (.int .u32 0) (.int .u32 0) (.int .u8 0) (.slice none 0 0) (.slice none 0 0) (.slice none 0 0)
  have hf := put8_tn w6 Q (.int .u8 op) (.int .i64 (pU zs p 4294967295).v) (.int .u32 0) (.int .u32 0) (.int .u8 0) (.slice none 0 0) (.slice none 0 0) (.slice none 0 0)
  unfold put8 at hb hf
  clear c0 c1 c2 c3 c4 c5 c6 c7 d0 d1 d2 d3 d4 d5 d6 d7 cz hq
  generalize ((((((((w6.setCell ⟨Q, 0, none⟩ (.int .u8 op)).setCell ⟨Q, 1, none⟩ (.int .i64 (pU zs p 4294967295).v)).setCell ⟨Q, 2, none⟩ (.int .u32 0)).setCell ⟨Q, 3, none⟩ (.int .u32 0)).setCell ⟨Q, 4, none⟩ (.int .u8 0)).setCell ⟨Q, 5, none⟩ (.slice none 0 0)).setCell ⟨Q, 6, none⟩ (.slice none 0 0)).setCell ⟨Q, 7, none⟩ (.slice none 0 0)) = wf at *
  obtain ⟨c0, c1, c2, c3, c4, c5, c6, c7⟩ := hb.cs
  obtain ⟨g1, g2⟩ := ins_end Q (unhide HR) (unhide HT) (by have := unhide HQ; omega) (by have := unhide HN; have := unhide HQ; omega) (fun b o e hl => by have := unhide HO b o e hl; have := unhide HQ; omega) hf
  refine bodyPost_ret (v := .agg #[.int .u8 op, .int .i64 (pU zs p 4294967295).v, .int .u32 0, .int .u32 0, .int .u8 0, .slice none 0 0, .slice none 0 0, .slice none 0 0]) (by simp [results, Tryd.results49, go_sem, c0, c1, c2, c3, c4, c5, c6, c7]) rfl ?_
  refine ⟨⟨op, (pU zs p 4294967295).v, 0, 0, 0, [], [], []⟩, .slice none 0 0, .slice none 0 0, .slice none 0 0, rfl, ?_, g2, ⟨⟨_, _, _, rfl⟩, ⟨_, _, _, rfl⟩, ⟨_, _, _, rfl⟩⟩, fun he => ?_⟩
  · rw [unhide HE.1, unhide HE.2.1, unhide HE.2.2.1]; exact g1
  · exact ⟨(unhide HE.2.2.2 (by rw [← unhide HE.1]; exact he)).symm, Code_nil _ _, Code_nil _ _, Labs_nil _ _⟩

set_option maxRecDepth 100000 in
set_option maxHeartbeats 3200000 in
theorem ins_9_no {N len cap p k nest : Nat} {a : Option Addr} {zs : List Int} {w : World} (op : Nat) (hop : op < 256) (x : Fam) (hx : fam op = some x) (ho : x.o = 9) (h : Rd w N a len cap zs p k 0) (hT : Tb w) (hP : ¬ (pU zs p 4294967295).e = 0) :
    Calls Tryd.prog 49 #[.pointer (some ⟨N, 0, none⟩), .int .u8 op, .int .i64 nest] w (InsPost w N a len cap zs (pI (D zs) zs p k nest op)) := by
  obtain ⟨x1, x2, o, x4, x5, x6⟩ := x
  simp only at ho
  subst ho
  have hfr := fr_of hx
  have hfm := fun wx hx => form_any op hop wx hx
  simp only [hx, formR, errV_0] at hfm
  obtain ⟨R, hR, hRe⟩ : ∃ R, pI (D zs) zs p k nest op = R ∧ R.e = (pU zs p 4294967295).e ∧ R.at_ = (pU zs p 4294967295).at_ ∧ R.k = k ∧ True := ⟨⟨(pU zs p 4294967295).e, (pU zs p 4294967295).at_, k, plain op⟩, by unfold pI; rw [hfr, if_neg (by decide), if_neg (by decide), if_neg (by decide), if_neg (by decide), if_neg (by decide), if_neg (by decide), if_pos rfl, Part.on_no hP], rfl, rfl, rfl, trivial⟩
  rw [hR]
  have HE : Hid (R.e = (pU zs p 4294967295).e) ∧ Hid (R.at_ = (pU zs p 4294967295).at_) ∧ Hid (R.k = k) ∧ Hid True := hRe
  clear hRe
  have HP := hide hP; clear hP
  have hpv := pU_v h.row.2.1 p 4294967295
  obtain ⟨pv0, pv1⟩ := hpv
  have HF := hide hfm; have HR := hide h; have HT := hide hT; clear hfm h hT hx hR hfr
  go_enter Tryd.func49, Tryd.ntmps49
  go_wp2_with fail
  obtain ⟨hb0, b0, b1, hz⟩ := bx_two w (.int .u8 0) (.int .i64 0) (.int .u32 0) (.int .u32 0) (.int .u8 0) (.slice none 0 0) (.slice none 0 0) (.slice none 0 0) (.int .u8 op) (.int .i64 0) (.int .u32 0) (.int .u32 0) (.int .u8 0) (.slice none 0 0) (.slice none 0 0) (.slice none 0 0)
  generalize (w.alloc (.cells #[.int .u8 0, .int .i64 0, .int .u32 0, .int .u32 0, .int .u8 0, .slice none 0 0, .slice none 0 0, .slice none 0 0] 50)).alloc (.cells #[.int .u8 op, .int .i64 0, .int .u32 0, .int .u32 0, .int .u8 0, .slice none 0 0, .slice none 0 0, .slice none 0 0] 50) = w2 at *
  refine (unhide HF _ ((unhide HT).1.below hb0)).mono ?_
  rintro e w3 ⟨rfl, hb3⟩
  have hb := Below.on hb0 hb3
  have hr := (unhide HR).below hb
  have ht := Tn.of (N := N) hb
  have hT := (unhide HT).below hb
  have hN := (unhide HR).lt
  have hold := (unhide HR).old
  replace b0 := b0.below hb3
  replace b1 := b1.below hb3
  have hz3 : w.heap.size + 2 ≤ w3.heap.size := by have := hb3.size; omega
  clear hb0 hb3 hz hb HF HR HT w2
  have HR := hide hr; have HT := hide ht; have HTb := hide hT; have B0 := hide b0; have B1 := hide b1; have HN := hide hN; have HO := hide hold; have HZ := hide hz3
  clear hr ht hT b0 b1 hN hold hz3
  generalize hQ : w.heap.size = Q at *
  have HQ := hide hQ; clear hQ
  go_wp2_with fail
  refine (un_any (unhide HR)).mono ?_
  rintro e w4 ⟨rfl, hr, ht⟩
  have b0 := (unhide B0).tn ht (by have := unhide HN; omega)
  have b1 := (unhide B1).tn ht (by have := unhide HN; omega)
  have ht2 := Tn.on (unhide HT) ht
  clear HR HT B0 B1
  have HR := hide hr; have HT := hide ht2; have B0 := hide b0; have B1 := hide b1
  clear hr ht ht2 b0 b1
  obtain ⟨p0, p1, p2, p3, p4, p5, p6, p7⟩ := (unhide B1).cs
  have pz := (unhide B1).fz
  have hr := (unhide HR).tn (Tn.set (Q + 1) 1 w4 (.int .i64 (pU zs p 4294967295).v)) (by have := unhide HN; omega) (fun b o e hl => by have := unhide HO b o e hl; have := unhide HQ; omega)
  have ht := (unhide HT).new (Tn.set (Q + 1) 1 w4 (.int .i64 (pU zs p 4294967295).v)) (by have := unhide HQ; omega)
  have b1 := (unhide B1).set1 (.int .i64 (pU zs p 4294967295).v)
  have b0 := (unhide B0).tn (Tn.set (Q + 1) 1 w4 (.int .i64 (pU zs p 4294967295).v)) (by omega)
  clear HR HT B0 B1
  have HR := hide hr; have HT := hide ht; have B0 := hide b0; have B1 := hide b1
  clear hr ht b0 b1
  go_wp2_with fail
  generalize w4.setCell ⟨Q + 1, 1, none⟩ (.int .i64 (pU zs p 4294967295).v) = w5 at *
  clear p0 p1 p2 p3 p4 p5 p6 p7 pz
  go_wp2_with fail
  refine (obZ_err (unhide HR) (unhide HP)).mono ?_
  rintro e w6 ⟨rfl, hr, ht⟩
  have b0 := (unhide B0).tn ht (by have := unhide HN; omega)
  have b1 := (unhide B1).tn ht (by have := unhide HN; omega)
  have ht2 := Tn.on (unhide HT) ht
  clear HR HT B0 B1
  have HR := hide hr; have HT := hide ht2; have B0 := hide b0; have B1 := hide b1
  clear hr ht ht2 b0 b1
  obtain ⟨c0, c1, c2, c3, c4, c5, c6, c7⟩ := (unhide B1).cs
  obtain ⟨d0, d1, d2, d3, d4, d5, d6, d7⟩ := (unhide B0).cs
  have cz := (unhide B0).fz
  have hq : Q < w6.heap.size := (unhide B0).lt
  go_wp2
  have hb := put8_bx (unhide B0) (.int .u8 op) (.int .i64 (pU zs p 4294967295).v) (.int .u32 0) (.int .u32 0) (.int .u8 0) (.slice none 0 0) (.slice none 0 0) (.slice none 0 0)
  have hf := put8_tn w6 Q (.int .u8 op) (.int .i64 (pU zs p 4294967295).v) (.int .u32 0) (.int .u32 0) (.int .u8 0) (.slice none 0 0) (.slice none 0 0) (.slice none 0 0)
  unfold put8 at hb hf
  clear c0 c1 c2 c3 c4 c5 c6 c7 d0 d1 d2 d3 d4 d5 d6 d7 cz hq
  generalize ((((((((w6.setCell ⟨Q, 0, none⟩ (.int .u8 op)).setCell ⟨Q, 1, none⟩ (.int .i64 (pU zs p 4294967295).v)).setCell ⟨Q, 2, none⟩ (.int .u32 0)).setCell ⟨Q, 3, none⟩ (.int .u32 0)).setCell ⟨Q, 4, none⟩ (.int .u8 0)).setCell ⟨Q, 5, none⟩ (.slice none 0 0)).setCell ⟨Q, 6, none⟩ (.slice none 0 0)).setCell ⟨Q, 7, none⟩ (.slice none 0 0)) = wf at *
  obtain ⟨c0, c1, c2, c3, c4, c5, c6, c7⟩ := hb.cs
  obtain ⟨g1, g2⟩ := ins_end Q (unhide HR) (unhide HT) (by have := unhide HQ; omega) (by have := unhide HN; have := unhide HQ; omega) (fun b o e hl => by have := unhide HO b o e hl; have := unhide HQ; omega) hf
  refine bodyPost_ret (v := .agg #[.int .u8 op, .int .i64 (pU zs p 4294967295).v, .int .u32 0, .int .u32 0, .int .u8 0, .slice none 0 0, .slice none 0 0, .slice none 0 0]) (by simp [results, Tryd.results49, go_sem, c0, c1, c2, c3, c4, c5, c6, c7]) rfl ?_
  refine ⟨⟨op, (pU zs p 4294967295).v, 0, 0, 0, [], [], []⟩, .slice none 0 0, .slice none 0 0, .slice none 0 0, rfl, ?_, g2, ⟨⟨_, _, _, rfl⟩, ⟨_, _, _, rfl⟩, ⟨_, _, _, rfl⟩⟩, fun he => ?_⟩
  · rw [unhide HE.1, unhide HE.2.1, unhide HE.2.2.1]; exact g1
  · exact absurd (by rw [← unhide HE.1]; exact he) (unhide HP)

set_option maxRecDepth 100000 in
set_option maxHeartbeats 3200000 in
theorem ins_8 {N len cap p k nest : Nat} {a : Option Addr} {zs : List Int} {w : World} (op : Nat) (hop : op < 256) (x : Fam) (hx : fam op = some x) (ho : x.o = 8) (h : Rd w N a len cap zs p k 0) (hT : Tb w) :
    Calls Tryd.prog 49 #[.pointer (some ⟨N, 0, none⟩), .int .u8 op, .int .i64 nest] w (InsPost w N a len cap zs (pI (D zs) zs p k nest op)) := by
  obtain ⟨x1, x2, o, x4, x5, x6⟩ := x
  simp only at ho
  subst ho
  have hfr := fr_of hx
  have hfm := fun wx hx => form_any op hop wx hx
  simp only [hx, formR, errV_0] at hfm
  have hR : _ ∧ _ ∧ _ ∧ _ := pT_ins zs p k op
  have hI : pI (D zs) zs p k nest op = ((pU zs p 256).on k (plain op) fun a1 v => (pL zs (v.toNat + 1) a1 k).on (plain op) fun a2 k2 ls => ⟨0, a2, k2, { plain op with ls := ls }⟩) := by unfold pI; rw [hfr]; rfl
  rw [hI]
  generalize ((pU zs p 256).on k (plain op) fun a1 v => (pL zs (v.toNat + 1) a1 k).on (plain op) fun a2 k2 ls => ⟨0, a2, k2, { plain op with ls := ls }⟩) = R at *
  have HE : Hid (R.e = ((pT zs p k)).e) ∧ Hid (R.at_ = ((pT zs p k)).at_) ∧ Hid (R.k = k) ∧ Hid (((pT zs p k)).e = 0 → R.v = { plain op with ls := (pT zs p k).v }) := hR
  clear hI
  have HF := hide hfm; have HR := hide h; have HT := hide hT; clear hfm h hT hx hR hfr
  go_enter Tryd.func49, Tryd.ntmps49
  go_wp2_with fail
  obtain ⟨hb0, b0, b1, hz⟩ := bx_two w (.int .u8 0) (.int .i64 0) (.int .u32 0) (.int .u32 0) (.int .u8 0) (.slice none 0 0) (.slice none 0 0) (.slice none 0 0) (.int .u8 op) (.int .i64 0) (.int .u32 0) (.int .u32 0) (.int .u8 0) (.slice none 0 0) (.slice none 0 0) (.slice none 0 0)
  generalize (w.alloc (.cells #[.int .u8 0, .int .i64 0, .int .u32 0, .int .u32 0, .int .u8 0, .slice none 0 0, .slice none 0 0, .slice none 0 0] 50)).alloc (.cells #[.int .u8 op, .int .i64 0, .int .u32 0, .int .u32 0, .int .u8 0, .slice none 0 0, .slice none 0 0, .slice none 0 0] 50) = w2 at *
  refine (unhide HF _ ((unhide HT).1.below hb0)).mono ?_
  rintro e w3 ⟨rfl, hb3⟩
  have hb := Below.on hb0 hb3
  have hr := (unhide HR).below hb
  have ht := Tn.of (N := N) hb
  have hT := (unhide HT).below hb
  have hN := (unhide HR).lt
  have hold := (unhide HR).old
  replace b0 := b0.below hb3
  replace b1 := b1.below hb3
  have hz3 : w.heap.size + 2 ≤ w3.heap.size := by have := hb3.size; omega
  clear hb0 hb3 hz hb HF HR HT w2
  have HR := hide hr; have HT := hide ht; have HTb := hide hT; have B0 := hide b0; have B1 := hide b1; have HN := hide hN; have HO := hide hold; have HZ := hide hz3
  clear hr ht hT b0 b1 hN hold hz3
  generalize hQ : w.heap.size = Q at *
  have HQ := hide hQ; clear hQ
  go_wp2_with fail
  refine (lb_any (unhide HR)).mono ?_
  rintro e w4 ⟨v, rfl, hr, ht, ⟨la, ll, lc, rfl⟩, hlab⟩
  have HLab := hide hlab
  have b0 := (unhide B0).tn ht (by have := unhide HN; omega)
  have b1 := (unhide B1).tn ht (by have := unhide HN; omega)
  have ht2 := Tn.on (unhide HT) ht
  clear HR HT B0 B1
  have HR := hide hr; have HT := hide ht2; have B0 := hide b0; have B1 := hide b1
  clear hr ht ht2 b0 b1 hlab
  obtain ⟨p0, p1, p2, p3, p4, p5, p6, p7⟩ := (unhide B1).cs
  have pz := (unhide B1).fz
  have hr := (unhide HR).tn (Tn.set (Q + 1) 7 w4 (.slice la ll lc)) (by have := unhide HN; omega) (fun b o e hl => by have := unhide HO b o e hl; have := unhide HQ; omega)
  have ht := (unhide HT).new (Tn.set (Q + 1) 7 w4 (.slice la ll lc)) (by have := unhide HQ; omega)
  have b1 := (unhide B1).set7 (.slice la ll lc)
  have b0 := (unhide B0).tn (Tn.set (Q + 1) 7 w4 (.slice la ll lc)) (by omega)
  clear HR HT B0 B1
  have HR := hide hr; have HT := hide ht; have B0 := hide b0; have B1 := hide b1
  clear hr ht b0 b1
  obtain ⟨c0, c1, c2, c3, c4, c5, c6, c7⟩ := (unhide B1).cs
  obtain ⟨d0, d1, d2, d3, d4, d5, d6, d7⟩ := (unhide B0).cs
  have cz := (unhide B0).fz
  have hq : Q < (w4.setCell ⟨Q + 1, 7, none⟩ (.slice la ll lc)).heap.size := (unhide B0).lt
  go_wp2
  have hb := put8_bx (unhide B0) (.int .u8 op) (.int .i64 0) (.int .u32 0) (.int .u32 0) (.int .u8 0) (.slice none 0 0) (.slice none 0 0) (.slice la ll lc)
  have hf := put8_tn (w4.setCell ⟨Q + 1, 7, none⟩ (.slice la ll lc)) Q (.int .u8 op) (.int .i64 0) (.int .u32 0) (.int .u32 0) (.int .u8 0) (.slice none 0 0) (.slice none 0 0) (.slice la ll lc)
  unfold put8 at hb hf
  clear c0 c1 c2 c3 c4 c5 c6 c7 d0 d1 d2 d3 d4 d5 d6 d7 cz hq p0 p1 p2 p3 p4 p5 p6 p7 pz
  generalize (((((((((w4.setCell ⟨Q + 1, 7, none⟩ (.slice la ll lc)).setCell ⟨Q, 0, none⟩ (.int .u8 op)).setCell ⟨Q, 1, none⟩ (.int .i64 0)).setCell ⟨Q, 2, none⟩ (.int .u32 0)).setCell ⟨Q, 3, none⟩ (.int .u32 0)).setCell ⟨Q, 4, none⟩ (.int .u8 0)).setCell ⟨Q, 5, none⟩ (.slice none 0 0)).setCell ⟨Q, 6, none⟩ (.slice none 0 0)).setCell ⟨Q, 7, none⟩ (.slice la ll lc)) = wf at *
  obtain ⟨c0, c1, c2, c3, c4, c5, c6, c7⟩ := hb.cs
  obtain ⟨g1, g2⟩ := ins_end Q (unhide HR) (unhide HT) (by have := unhide HQ; omega) (by have := unhide HN; have := unhide HQ; omega) (fun b o e hl => by have := unhide HO b o e hl; have := unhide HQ; omega) hf
  refine bodyPost_ret (v := .agg #[.int .u8 op, .int .i64 0, .int .u32 0, .int .u32 0, .int .u8 0, .slice none 0 0, .slice none 0 0, .slice la ll lc]) (by simp [results, Tryd.results49, go_sem, c0, c1, c2, c3, c4, c5, c6, c7]) rfl ?_
  refine ⟨⟨op, 0, 0, 0, 0, [], [], (pT zs p k).v⟩, .slice none 0 0, .slice none 0 0, .slice la ll lc, rfl, ?_, g2, ⟨⟨_, _, _, rfl⟩, ⟨_, _, _, rfl⟩, ⟨_, _, _, rfl⟩⟩, fun he => ?_⟩
  · rw [unhide HE.1, unhide HE.2.1, unhide HE.2.2.1]; exact g1
  · have hv := unhide HE.2.2.2 (by rw [← unhide HE.1]; exact he)
    have hl := unhide HLab (by rw [← unhide HE.1]; exact he)
    refine ⟨hv.symm, Code_nil _ _, Code_nil _ _, ?_⟩
    have h1 := Labs.move (Moves.tn (Tn.set (Q + 1) 7 w4 (.slice la ll lc)) (g' := (w3.heap.size ≤ ·)) (fun k hk => ⟨by have := unhide HZ; omega, hk⟩)) hl
    exact Labs.move (Moves.tn hf (fun k hk => ⟨by have := unhide HZ; have : w3.heap.size ≤ k := hk; omega, by have := unhide HZ; have := unhide HQ; have : w3.heap.size ≤ k := hk; show w.heap.size ≤ k; omega⟩)) h1
end Ex
end Go.Proofs.YtjhmglefejclpaaDoor
