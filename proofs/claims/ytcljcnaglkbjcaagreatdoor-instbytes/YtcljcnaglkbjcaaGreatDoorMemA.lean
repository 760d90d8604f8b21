/- A memory in the heap: what it is, what keeps it; New, Pages. -/
import Derived.Test.YtcljcnaglkbjcaaGreatDoorOn
import Derived.Laws.Externs
import Derived.Deep.OwnRows
namespace Go.Proofs.YtcljcnaglkbjcaaGreatDoor
open Go.RowKit
set_option linter.unusedVariables false

/-- A memory: the box at block b, its row at block g; n bytes zs, at most so many pages. -/
structure MemAt (w : World) (b g n cap : Nat) (most : Int) (zs : List Int) : Prop where
  box : w.heap[b]? = some (.cells #[.slice (some ⟨g, 0, none⟩) n cap, .int .i64 most] 163 (0, 0))
  row : ∃ cur, w.heap[g]? = some (.cells cur 5 (0, 0)) ∧ cur.size = cap ∧ cur.toList.take n = zs.map (Value.int .u8)
  len : zs.length = n
  byt : ∀ z ∈ zs, 0 ≤ z ∧ z ≤ 255
  room : n ≤ cap
  capm : cap ≤ maxLen
  small : n ≤ 65536

namespace MemAt
variable {w : World} {b g n cap : Nat} {most : Int} {zs : List Int}
theorem c0 (h : MemAt w b g n cap most zs) : w.cell? ⟨b, 0, none⟩ = some (.slice (some ⟨g, 0, none⟩) n cap) := by rw [cell_of_row w b 0 _ _ _ h.box]; rfl
theorem c1 (h : MemAt w b g n cap most zs) : w.cell? ⟨b, 1, none⟩ = some (.int .i64 most) := by rw [cell_of_row w b 1 _ _ _ h.box]; rfl
theorem fb (h : MemAt w b g n cap most zs) (j : Nat) : w.frozen? ⟨b, j, none⟩ = false := frozen_of_row w b j _ _ h.box
theorem fg (h : MemAt w b g n cap most zs) (j : Nat) : w.frozen? ⟨g, j, none⟩ = false := by obtain ⟨cur, hc, _⟩ := h.row; exact frozen_of_row w g j _ _ hc
theorem ltb (h : MemAt w b g n cap most zs) : b < w.heap.size := (Array.getElem?_eq_some_iff.1 h.box).1
theorem ltg (h : MemAt w b g n cap most zs) : g < w.heap.size := by obtain ⟨cur, hc, _⟩ := h.row; exact (Array.getElem?_eq_some_iff.1 hc).1
theorem ne (h : MemAt w b g n cap most zs) : b ≠ g := by
  rintro rfl
  obtain ⟨cur, hc, _⟩ := h.row
  have := h.box.symm.trans hc
  simp at this
theorem cell (h : MemAt w b g n cap most zs) (i : Nat) (hi : i < n) : w.cell? ⟨g, i, none⟩ = some (.int .u8 (zs[i]?.getD 0)) := by
  obtain ⟨cur, hc, hs, ht⟩ := h.row
  rw [cell_of_row w g i _ _ _ hc]
  have h1 : (cur.toList.take n)[i]? = (zs.map (Value.int .u8))[i]? := by rw [ht]
  rw [List.getElem?_take_of_lt hi] at h1
  have hl : i < zs.length := by rw [h.len]; exact hi
  simpa [hl] using h1
theorem keep (h : MemAt w b g n cap most zs) {w' : World} (hb : w'.heap[b]? = w.heap[b]?) (hg : w'.heap[g]? = w.heap[g]?) : MemAt w' b g n cap most zs := by
  obtain ⟨cur, hc, hr⟩ := h.row
  exact ⟨hb.trans h.box, ⟨cur, hg.trans hc, hr⟩, h.len, h.byt, h.room, h.capm, h.small⟩
theorem below (h : MemAt w b g n cap most zs) {w' : World} {B : Nat} (hB : w.heap.size ≤ B) (hb : Below B w w') : MemAt w' b g n cap most zs :=
  h.keep (hb.block b (Nat.lt_of_lt_of_le h.ltb hB)) (hb.block g (Nat.lt_of_lt_of_le h.ltg hB))
theorem byt_at (h : MemAt w b g n cap most zs) (i : Nat) : 0 ≤ zs[i]?.getD 0 ∧ zs[i]?.getD 0 ≤ 255 := by
  by_cases hi : i < zs.length
  · have := h.byt (zs[i]) (List.getElem_mem hi)
    simpa [hi] using this
  · simp [hi]
end MemAt

/-- A row of bytes may have been written, or a box; all else stands. -/
structure Oth (b g : Nat) (w w' : World) : Prop where
  os : w'.os = w.os
  tape : w'.tape = w.tape
  output : w'.output = w.output
  size : w.heap.size ≤ w'.heap.size
  block : ∀ k, k < w.heap.size → k ≠ b → k ≠ g → w'.heap[k]? = w.heap[k]?
theorem Oth.refl (b g : Nat) (w : World) : Oth b g w w := ⟨rfl, rfl, rfl, Nat.le_refl _, fun _ _ _ _ => rfl⟩
theorem Oth.trans {b g : Nat} {w w1 w2 : World} (h : Oth b g w w1) (k : Oth b g w1 w2) : Oth b g w w2 :=
  ⟨k.os.trans h.os, k.tape.trans h.tape, k.output.trans h.output, Nat.le_trans h.size k.size, fun i hi h1 h2 => (k.block i (Nat.lt_of_lt_of_le hi h.size) h1 h2).trans (h.block i hi h1 h2)⟩
theorem Oth.below {b g B : Nat} {w w' : World} (h : Oth b g w w') (hB : B ≤ w.heap.size) (hb : B ≤ b) (hg : B ≤ g) : Below B w w' :=
  ⟨h.os, h.tape, h.output, h.size, fun k hk => h.block k (by omega) (by omega) (by omega)⟩
theorem Oth.ofBelow {b g : Nat} {w w' : World} (h : Below w.heap.size w w') : Oth b g w w' := ⟨h.os, h.tape, h.output, h.size, fun k hk _ _ => h.block k hk⟩

theorem Tryz.info5 : (Tryz.prog.info? 5).map (fun i => (i.zero, i.size, i.bytes)) = some (some (.int .u8 0), 1, 1) := by kernel_rfl

theorem made0 (n : Nat) : (madeCells #[Value.int .u8 0] n).toList = (List.replicate n (0 : Int)).map (Value.int .u8) := by
  apply List.ext_getElem
  · simp [madeCells]
  · intro i h1 h2
    simp [madeCells, Nat.mod_one]

theorem new_memAt (w : World) (n : Nat) (most : Int) (hn : n ≤ 65536) :
    MemAt ((w.alloc (.cells (madeCells #[.int .u8 0] n) 5)).alloc (.cells #[.slice (some ⟨w.heap.size, 0, none⟩) n n, .int .i64 most] 163)) (w.heap.size + 1) w.heap.size n n most (List.replicate n 0) where
  box := by have := heap_alloc_new (w.alloc (.cells (madeCells #[.int .u8 0] n) 5)) (.cells #[.slice (some ⟨w.heap.size, 0, none⟩) n n, .int .i64 most] 163); simpa using this
  row := ⟨madeCells #[.int .u8 0] n, by rw [Below.heap_alloc _ _ _ (by simp)]; exact heap_alloc_new _ _, by simp [madeCells], by rw [made0]; simp⟩
  len := by simp
  byt := by simp
  room := Nat.le_refl _
  capm := by unfold maxLen; omega
  small := hn

set_option maxHeartbeats 400000 in
theorem new_yes (p k : Int) (w : World) (h0 : 0 ≤ p) (h1 : p ≤ k) (h2 : k ≤ 16) :
    Calls Tryz.prog 20 #[.int .i64 p, .int .i64 k] w fun e w' => e = .returned (.tuple #[.pointer (some ⟨w.heap.size + 1, 0, none⟩), .nilIface]) ∧
      MemAt w' (w.heap.size + 1) w.heap.size (p.toNat * 4096) (p.toNat * 4096) k (List.replicate (p.toNat * 4096) 0) ∧ Below w.heap.size w w' := by
  obtain ⟨q, rfl⟩ := Int.eq_ofNat_of_zero_le h0
  have hq : q ≤ 16 := by omega
  have hmk := fun wx => run_make_row' (P := Tryz.prog) 105 5 (.int .u8 0) 1 Tryz.underlying105 Tryz.info5 rfl .i64 .i64 (q * 4096) (by omega) (by omega) wx
  have e1 : ((q * 4096 : Nat) : Int) = (q : Int) * 4096 := by omega
  rw [e1] at hmk
  have HN := hide (new_memAt w (q * 4096) k (by omega))
  clear e1
  go_enter Tryz.func20, Tryz.ntmps20
  go_wp2
  go_ret2
  exact ⟨rfl, by simpa using unhide HN, ((Below.refl _ _).alloc (Nat.le_refl _) _).alloc (by simp) _⟩

set_option maxHeartbeats 400000 in
theorem pages_any {w : World} {b g n cap : Nat} {most : Int} {zs : List Int} (hm : MemAt w b g n cap most zs) :
    Calls Tryz.prog 30 #[.pointer (some ⟨b, 0, none⟩)] w fun e w' => e = .returned (.int .i64 ((n / 4096 : Nat) : Int)) ∧ w = w' := by
  have h0 := hm.c0
  have hs := hm.small
  go_enter Tryz.func30, Tryz.ntmps30
  go_wp2
  go_ret
  exact ⟨ret_int (by omega), rfl⟩
end Go.Proofs.YtcljcnaglkbjcaaGreatDoor
