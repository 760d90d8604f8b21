/- ops.Form, family's params. -/
import Derived.Test.YtpecnljcgiicaaaDoorOpE
namespace Go.Proofs.YtpecnljcgiicaaaDoor
open Go.RowKit
set_option linter.unusedVariables false

theorem infoK : (Tryd.prog.info? 129).map (fun i => (i.zero, i.size, i.bytes)) = some (some (.int .u8 0), 1, 1) := by kernel_rfl

def formR (o : Option Fam) : Value := match o with
  | some x => .tuple #[.int .i64 x.o, errV 0]
  | none => .tuple #[.int .i64 0, errV 1]

set_option maxRecDepth 100000 in
set_option maxHeartbeats 1600000 in
theorem form_any (n : Nat) (hn : n < 256) (w : World) (hT : TC w 0 fmV) :
    Calls Tryd.prog 87 #[.int .u8 n] w fun e w' => e = .returned (formR (fam n)) ∧ Below w.heap.size w w' := by
  have hf := family_any n hn w hT
  cases hx : fam n with
  | none =>
    rw [hx] at hf
    simp only [famR, errV_1] at hf
    simp only [formR, errV_1]
    have HF := hide hf; clear hf hx hT
    go_enter Tryd.func87, Tryd.ntmps87
    go_wp2_with fail
    refine (unhide HF).mono ?_
    rintro e w1 ⟨rfl, hb⟩
    have HB := hide hb; clear hb
    go_wp2
    go_ret2
    exact ⟨rfl, (unhide HB).alloc (unhide HB).size _⟩
  | some x =>
    rw [hx] at hf
    obtain ⟨a, b, o, y, z, g⟩ := x
    simp only [famR, errV_0] at hf
    simp only [formR, errV_0]
    have HF := hide hf; clear hf hx hT
    go_enter Tryd.func87, Tryd.ntmps87
    go_wp2_with fail
    refine (unhide HF).mono ?_
    rintro e w1 ⟨rfl, hb⟩
    have HB := hide hb; clear hb
    go_wp2
    go_ret2
    exact ⟨rfl, (unhide HB).alloc (unhide HB).size _⟩

/-- what is taken: none stands for nothing -/
def pk (x y : Int) (j : Nat) : List Int := ([x, y].take j).filter (fun c => c != 0)
def kRow (x y : Int) (j : Nat) : List Value := (pk x y j).map (Value.int .u8)
theorem pk_0 (x y : Int) : pk x y 0 = [] := rfl
theorem pk_1 (x y : Int) : pk x y 1 = pk x y 0 ++ if x != 0 then [x] else [] := by
  unfold pk; simp [List.filter_cons]
theorem pk_2 (x y : Int) : pk x y 2 = pk x y 1 ++ if y != 0 then [y] else [] := by
  unfold pk; simp [List.filter_cons]; split <;> split <;> simp_all

set_option maxRecDepth 100000 in
set_option maxHeartbeats 1600000 in
theorem params_any (a b o x y g : Int) (w : World) (hx : 0 ≤ x ∧ x ≤ 255) (hy : 0 ≤ y ∧ y ≤ 255) :
    Calls Tryd.prog 91 #[.agg #[.int .u8 a, .int .u8 b, .int .i64 o, .int .u8 x, .int .u8 y, .int .u8 g]] w fun e w' =>
      ∃ v, e = .returned v ∧ w'.ownsRow w.heap.size 129 1 v (pk x y 2).length (kRow x y 2) ∧ Below w.heap.size w w' := by
  obtain ⟨i0, hi, hz0, hz1, hz2⟩ := info_parts infoK
  have ix0 : ∀ wx, (Instr.index 145 (.agg #[.int .u8 x, .int .u8 y]) (.int .i64 0)).run Tryd.prog wx = .ok (.int .u8 x) wx := fun _ => by kernel_rfl
  have ix1 : ∀ wx, (Instr.index 145 (.agg #[.int .u8 x, .int .u8 y]) (.int .i64 1)).run Tryd.prog wx = .ok (.int .u8 y) wx := fun _ => by kernel_rfl
  have h0 : Below w.heap.size w (w.alloc (.cells #[.int .u8 a, .int .u8 b, .int .i64 o, .int .u8 x, .int .u8 y, .int .u8 g] 140)) := (Below.refl _ _).alloc (Nat.le_refl _) _
  have H0 := hide h0; clear h0
  go_enter Tryd.func91, Tryd.ntmps91
  go_wp2_with fail
  generalize w.alloc (.cells #[.int .u8 a, .int .u8 b, .int .i64 o, .int .u8 x, .int .u8 y, .int .u8 g] 140) = w1 at *
  generalize hB : w.heap.size = B at *
  have HB := hide hB; clear hB
  go_loopw [3, 11] (fun s k wr => ∃ (j : Nat), k = .int .i64 (j : Int) ∧ (j : Int) ≤ 2 ∧ wr.ownsRow B 129 1 s (pk x y j).length (kRow x y j) ∧ Below B w wr ∧ B ≤ wr.heap.size) (fun _ k _ => 2 - (intOf k).toNat)
  case atStart => exact ⟨0, rfl, by omega, World.ownsRow_nil _ _ _ _, unhide H0, by have := (unhide H0).size; have := unhide HB; omega⟩
  case round =>
    obtain ⟨j, rfl, hj, hown, hbel, hlt⟩ := hrel
    have HO := hide hown; have HBe := hide hbel; have HLt := hide hlt
    clear hown hbel hlt
    by_cases hl2 : (j : Int) < 2
    · obtain ⟨c, ix, hpk, hc0, hc1⟩ : ∃ c, (∀ wx, (Instr.index 145 (.agg #[.int .u8 x, .int .u8 y]) (.int .i64 (j : Int))).run Tryd.prog wx = .ok (.int .u8 c) wx) ∧ pk x y (j + 1) = pk x y j ++ (if c != 0 then [c] else []) ∧ 0 ≤ c ∧ c ≤ 255 := by
        rcases (show j = 0 ∨ j = 1 by omega) with rfl | rfl
        · exact ⟨x, ix0, pk_1 x y, hx.1, hx.2⟩
        · exact ⟨y, ix1, pk_2 x y, hy.1, hy.2⟩
      have HP := hide hpk
      have hlen : (pk x y j).length ≤ j := by unfold pk; exact Nat.le_trans (List.length_filter_le _ _) (by rw [List.length_take]; omega)
      have HLen := hide hlen
      clear ix0 ix1 hx hy hj hpk hlen
      by_cases hcz : c = 0
      · subst hcz
        have hp2 : pk x y (j + 1) = pk x y j := by rw [unhide HP]; simp
        have HP2 := hide hp2; clear hp2 HP
        go_wp2
        go_roundw
        case rel => exact ⟨j + 1, by go_num, by omega, by unfold kRow; rw [unhide HP2]; exact unhide HO, unhide HBe, unhide HLt⟩
        case measure => simp [intOf]; omega
      · have t : (c != 0) = true := by simpa using hcz
        have hp2 : pk x y (j + 1) = pk x y j ++ [c] := by rw [unhide HP, if_pos t]
        have HP2 := hide hp2; clear hp2 HP hcz
        go_wp2_with (at_builtin; refine wpList_append_own _ rfl (.tmp 16) (.tmp 18) 128 rfl B 129 i0 (.int .u8 0) 1 1 Tryd.underlying128 hi hz0 hz1 hz2 rfl (by decide) u3 (pk x y j).length (kRow x y j) rfl ((unhide HO).alloc _) ⟨wr.heap.size, 0, none⟩ 1 1 [.int .u8 c] rfl rfl ?c1 ?c2 ?c3 ?c4 ?c5 ?_)
        case c1 => exact cell_one_new _ _ _
        case c2 => first | rfl | (intro u hu; simp at hu; subst hu; rfl)
        case c3 => unfold maxLen; have := unhide HLen; omega
        case c4 => have := unhide HLen; omega
        case c5 => have := unhide HLt; simp; omega
        intro v' w2 hown3 hgrow _
        have h1 : Below B w w2 := ((unhide HBe).alloc (unhide HLt) _).grown hgrow (by have := unhide HLt; have := unhide HB; simp; omega) (fun k hk => ((unhide HO).lt k hk).1)
        have h2 : w2.ownsRow B 129 1 v' (pk x y (j + 1)).length (kRow x y (j + 1)) := by
          unfold kRow; rw [unhide HP2]; simpa [kRow] using hown3
        have H1 := hide h1; have H2 := hide h2
        clear hown3 hgrow h1 h2 HO
        go_wp2
        go_roundw
        case rel => exact ⟨j + 1, by go_num, by omega, unhide H2, unhide H1, by have := (unhide H1).size; have := unhide HB; omega⟩
        case measure => simp [intOf]; omega
    · obtain rfl : j = 2 := by omega
      clear hj hl2
      go_wp2
      go_ret
      exact ⟨_, rfl, by rw [unhide HB]; exact unhide HO, by rw [unhide HB]; exact unhide HBe⟩
end Go.Proofs.YtpecnljcgiicaaaDoor
