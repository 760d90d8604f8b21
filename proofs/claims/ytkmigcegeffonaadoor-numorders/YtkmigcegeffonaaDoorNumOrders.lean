/- NumOrders returns true for every bool and every two uint64, and leaves them: of two values just one of less, the same and greater holds, with a sign and without; what is not less is greater or the same. Of math/bits.deBruijn64tab, the one package variable that its road names, nothing is read; the card ties what the row lays. -/
import Derived.Test.YtkmigcegeffonaaDoorRows
import Derived.WalkKit
import Derived.ProofKit
import Derived.OpenShut
import Derived.ShutString
import Derived.ChangeOld
import Derived.ChangeSame
import Derived.ChangeVars
import Derived.JoinedOf
import Derived.RowKit
import Derived.RowKitTokens
import Derived.LaidLaws
import Derived.LaidHandle
import Derived.Stop.Joined
import Derived.Test.YtkmigcegeffonaaDoorTie
import Derived.Test.YtkmigcegeffonaaDoorCards
import Derived.Test.YtkmigcegeffonaaDoorNumE
namespace Go.Proofs.YtkmigcegeffonaaDoor.numOrders
open Go.ChangeShapes Go.WideShapes Go.ChangeAt Go.RowKit
open Go.ChangeMaps (open_string shut_string)
set_option linter.unusedVariables false

theorem own : ownKnob Tryd.prog.godebug = none := by kernel_rfl

/-- the ten answers: those up to k are told -/
def ordAt (w : World) (B : Nat) (V : Nat → Int) (k : Nat) : Prop := ∀ j, j < 10 → w.cell? ⟨B, j, none⟩ = some (.int .u64 (if j < k then V j else 0)) ∧ w.frozen? ⟨B, j, none⟩ = false
theorem ord_start (w : World) (V : Nat → Int) : ordAt (w.alloc (.cells #[.int .u64 0, .int .u64 0, .int .u64 0, .int .u64 0, .int .u64 0, .int .u64 0, .int .u64 0, .int .u64 0, .int .u64 0, .int .u64 0] 44)) w.heap.size V 0 := by
  intro j hj
  rcases (show j = 0 ∨ j = 1 ∨ j = 2 ∨ j = 3 ∨ j = 4 ∨ j = 5 ∨ j = 6 ∨ j = 7 ∨ j = 8 ∨ j = 9 from by omega) with rfl | rfl | rfl | rfl | rfl | rfl | rfl | rfl | rfl | rfl <;> simp
theorem ord_step {w : World} {B : Nat} {V : Nat → Int} {k : Nat} (h : ordAt w B V k) (hk : k < 10) : ordAt (w.setCell ⟨B, k, none⟩ (.int .u64 (V k))) B V (k + 1) := by
  intro j hj
  by_cases e : j = k
  · subst e
    refine ⟨?_, ?_⟩
    · rw [World.cell?_setCell_same _ _ _ (h j hj).1, if_pos (Nat.lt_succ_self j)]
    · rw [World.frozen?_setCell]; exact (h j hj).2
  · refine ⟨?_, ?_⟩
    · rw [World.cell?_setCell_other _ _ _ _ (fun hh => e (by have := congrArg Addr.off hh; simpa using this.symm)), (h j hj).1]
      have : (j < k + 1) ↔ (j < k) := by omega
      simp only [this]
    · rw [World.frozen?_setCell]; exact (h j hj).2
theorem ord_read {w : World} {B : Nat} {V : Nat → Int} (h : ordAt w B V 10) (j : Nat) (v : Int) (hj : j < 10) (hv : V j = v) : w.cell? ⟨B, j, none⟩ = some (.int .u64 v) := by
  rw [(h j hj).1, if_pos hj, hv]
def ordV (W : Nat) (X Y : Int) (l : List Int) : Prop := ∀ j : Nat, j < 10 → Num.b01 (Num.cmpB W (70 + (j : Int)) X Y) = l.getD j 0
theorem ord_v0 (W : Nat) (X Y : Int) (h1 : X = Y) (h2 : Num.sg W X = Num.sg W Y) : ordV W X Y [1, 0, 0, 0, 0, 0, 1, 1, 1, 1] := by
  intro j hj
  generalize ha : Num.sg W X = a at *
  generalize hb : Num.sg W Y = b at *
  have p0 : (X = Y) = True := eq_true (by omega)
  have p1 : (X < Y) = False := eq_false (by omega)
  have p2 : (Y < X) = False := eq_false (by omega)
  have p3 : (X ≤ Y) = True := eq_true (by omega)
  have p4 : (Y ≤ X) = True := eq_true (by omega)
  have q1 : (a < b) = False := eq_false (by omega)
  have q2 : (b < a) = False := eq_false (by omega)
  have q3 : (a ≤ b) = True := eq_true (by omega)
  have q4 : (b ≤ a) = True := eq_true (by omega)
  rcases (show j = 0 ∨ j = 1 ∨ j = 2 ∨ j = 3 ∨ j = 4 ∨ j = 5 ∨ j = 6 ∨ j = 7 ∨ j = 8 ∨ j = 9 from by omega) with rfl | rfl | rfl | rfl | rfl | rfl | rfl | rfl | rfl | rfl <;> simp only [Num.cmpB, Num.b01, ha, hb] <;> simp [p0, p1, p2, p3, p4, q1, q2, q3, q4, bne]
theorem ord_v1 (W : Nat) (X Y : Int) (h1 : X < Y) (h2 : Num.sg W X < Num.sg W Y) : ordV W X Y [0, 1, 1, 1, 0, 0, 1, 1, 0, 0] := by
  intro j hj
  generalize ha : Num.sg W X = a at *
  generalize hb : Num.sg W Y = b at *
  have p0 : (X = Y) = False := eq_false (by omega)
  have p1 : (X < Y) = True := eq_true (by omega)
  have p2 : (Y < X) = False := eq_false (by omega)
  have p3 : (X ≤ Y) = True := eq_true (by omega)
  have p4 : (Y ≤ X) = False := eq_false (by omega)
  have q1 : (a < b) = True := eq_true (by omega)
  have q2 : (b < a) = False := eq_false (by omega)
  have q3 : (a ≤ b) = True := eq_true (by omega)
  have q4 : (b ≤ a) = False := eq_false (by omega)
  rcases (show j = 0 ∨ j = 1 ∨ j = 2 ∨ j = 3 ∨ j = 4 ∨ j = 5 ∨ j = 6 ∨ j = 7 ∨ j = 8 ∨ j = 9 from by omega) with rfl | rfl | rfl | rfl | rfl | rfl | rfl | rfl | rfl | rfl <;> simp only [Num.cmpB, Num.b01, ha, hb] <;> simp [p0, p1, p2, p3, p4, q1, q2, q3, q4, bne]
theorem ord_v2 (W : Nat) (X Y : Int) (h1 : X < Y) (h2 : Num.sg W Y < Num.sg W X) : ordV W X Y [0, 1, 0, 1, 1, 0, 0, 1, 1, 0] := by
  intro j hj
  generalize ha : Num.sg W X = a at *
  generalize hb : Num.sg W Y = b at *
  have p0 : (X = Y) = False := eq_false (by omega)
  have p1 : (X < Y) = True := eq_true (by omega)
  have p2 : (Y < X) = False := eq_false (by omega)
  have p3 : (X ≤ Y) = True := eq_true (by omega)
  have p4 : (Y ≤ X) = False := eq_false (by omega)
  have q1 : (a < b) = False := eq_false (by omega)
  have q2 : (b < a) = True := eq_true (by omega)
  have q3 : (a ≤ b) = False := eq_false (by omega)
  have q4 : (b ≤ a) = True := eq_true (by omega)
  rcases (show j = 0 ∨ j = 1 ∨ j = 2 ∨ j = 3 ∨ j = 4 ∨ j = 5 ∨ j = 6 ∨ j = 7 ∨ j = 8 ∨ j = 9 from by omega) with rfl | rfl | rfl | rfl | rfl | rfl | rfl | rfl | rfl | rfl <;> simp only [Num.cmpB, Num.b01, ha, hb] <;> simp [p0, p1, p2, p3, p4, q1, q2, q3, q4, bne]
theorem ord_v3 (W : Nat) (X Y : Int) (h1 : Y < X) (h2 : Num.sg W X < Num.sg W Y) : ordV W X Y [0, 1, 1, 0, 0, 1, 1, 0, 0, 1] := by
  intro j hj
  generalize ha : Num.sg W X = a at *
  generalize hb : Num.sg W Y = b at *
  have p0 : (X = Y) = False := eq_false (by omega)
  have p1 : (X < Y) = False := eq_false (by omega)
  have p2 : (Y < X) = True := eq_true (by omega)
  have p3 : (X ≤ Y) = False := eq_false (by omega)
  have p4 : (Y ≤ X) = True := eq_true (by omega)
  have q1 : (a < b) = True := eq_true (by omega)
  have q2 : (b < a) = False := eq_false (by omega)
  have q3 : (a ≤ b) = True := eq_true (by omega)
  have q4 : (b ≤ a) = False := eq_false (by omega)
  rcases (show j = 0 ∨ j = 1 ∨ j = 2 ∨ j = 3 ∨ j = 4 ∨ j = 5 ∨ j = 6 ∨ j = 7 ∨ j = 8 ∨ j = 9 from by omega) with rfl | rfl | rfl | rfl | rfl | rfl | rfl | rfl | rfl | rfl <;> simp only [Num.cmpB, Num.b01, ha, hb] <;> simp [p0, p1, p2, p3, p4, q1, q2, q3, q4, bne]
theorem ord_v4 (W : Nat) (X Y : Int) (h1 : Y < X) (h2 : Num.sg W Y < Num.sg W X) : ordV W X Y [0, 1, 0, 0, 1, 1, 0, 0, 1, 1] := by
  intro j hj
  generalize ha : Num.sg W X = a at *
  generalize hb : Num.sg W Y = b at *
  have p0 : (X = Y) = False := eq_false (by omega)
  have p1 : (X < Y) = False := eq_false (by omega)
  have p2 : (Y < X) = True := eq_true (by omega)
  have p3 : (X ≤ Y) = False := eq_false (by omega)
  have p4 : (Y ≤ X) = True := eq_true (by omega)
  have q1 : (a < b) = False := eq_false (by omega)
  have q2 : (b < a) = True := eq_true (by omega)
  have q3 : (a ≤ b) = False := eq_false (by omega)
  have q4 : (b ≤ a) = True := eq_true (by omega)
  rcases (show j = 0 ∨ j = 1 ∨ j = 2 ∨ j = 3 ∨ j = 4 ∨ j = 5 ∨ j = 6 ∨ j = 7 ∨ j = 8 ∨ j = 9 from by omega) with rfl | rfl | rfl | rfl | rfl | rfl | rfl | rfl | rfl | rfl <;> simp only [Num.cmpB, Num.b01, ha, hb] <;> simp [p0, p1, p2, p3, p4, q1, q2, q3, q4, bne]
theorem ord_cases (W : Nat) (hW : W = 32 ∨ W = 64) (x y : Int) : ∃ X Y, (Num.lo W x = X ∧ Num.lo W y = Y) ∧ (ordV W X Y [1, 0, 0, 0, 0, 0, 1, 1, 1, 1] ∨ ordV W X Y [0, 1, 1, 1, 0, 0, 1, 1, 0, 0] ∨ ordV W X Y [0, 1, 0, 1, 1, 0, 0, 1, 1, 0] ∨ ordV W X Y [0, 1, 1, 0, 0, 1, 1, 0, 0, 1] ∨ ordV W X Y [0, 1, 0, 0, 1, 1, 0, 0, 1, 1]) := by
  refine ⟨_, _, ⟨rfl, rfl⟩, ?_⟩
  have h1 := Num.lo_lt W hW x; have h2 := Num.lo_lt W hW y
  generalize Num.lo W x = X at *
  generalize Num.lo W y = Y at *
  have h : (X = Y ∧ Num.sg W X = Num.sg W Y) ∨ (X < Y ∧ Num.sg W X < Num.sg W Y) ∨ (X < Y ∧ Num.sg W Y < Num.sg W X) ∨ (Y < X ∧ Num.sg W X < Num.sg W Y) ∨ (Y < X ∧ Num.sg W Y < Num.sg W X) := by
    rcases hW with rfl | rfl <;> simp only [Num.sg, Num.pw_32, Num.pw_64, Num.hf_32, Num.hf_64] at * <;> omega
  rcases h with ⟨u, v⟩ | ⟨u, v⟩ | ⟨u, v⟩ | ⟨u, v⟩ | ⟨u, v⟩
  · exact .inl (ord_v0 W X Y u v)
  · exact .inr (.inl (ord_v1 W X Y u v))
  · exact .inr (.inr (.inl (ord_v2 W X Y u v)))
  · exact .inr (.inr (.inr (.inl (ord_v3 W X Y u v))))
  · exact .inr (.inr (.inr (.inr (ord_v4 W X Y u v))))

set_option maxHeartbeats 10000000 in
theorem walk (a0 : Bool) (a1 : Int) (a2 : Int) (w1 : (Lit.int .u64 a1).wf = true) (w2 : (Lit.int .u64 a2).wf = true) (w : World) :
    Calls Tryd.prog 8 #[.bool a0, .int .u64 a1, .int .u64 a2] w fun e w' => e = .returned (.bool true) ∧ Below w.heap.size w w' := by
  obtain ⟨b0, b1⟩ := bounds_u64 w1
  obtain ⟨b2, b3⟩ := bounds_u64 w2
  clear w1 w2
  cases a0
  · have e1 := fun (k : Nat) (hk : k < 10) wx => two_cmp 32 (.inl rfl) (70 + k) (70 + k) a1 a2 (by rw [Num.opc_32]) (by omega) wx b0 (by omega) b2 (by omega)
    obtain ⟨X, Y, hXY, hcase⟩ := ord_cases 32 (.inl rfl) a1 a2
    rw [hXY.1, hXY.2] at e1
    have H1 := hide e1; have HC := hide hcase; clear e1 hXY hcase
    go_enter Tryd.func8, Tryd.ntmps8
    go_wp2_with fail
    go_loopw [9] (fun c wr => ∃ (k : Nat), c = .int .i64 k ∧ k ≤ 10 ∧ Below w.heap.size w wr ∧ ordAt wr w.heap.size (fun j => Num.b01 (Num.cmpB 32 (70 + (j : Nat)) X Y)) k) (fun c _ => 10 - (intOf c).toNat)
    case atStart => exact ⟨0, rfl, by omega, (Below.refl _ _).alloc (Nat.le_refl _) _, ord_start w _⟩
    case round =>
      obtain ⟨k, rfl, hk, hbel, hord⟩ := hrel
      have HB := hide hbel; have HO := hide hord; clear hbel hord
      by_cases hlt : k < 10
      · have hcell := ((unhide HO) k hlt).1
        have hfro := ((unhide HO) k hlt).2
        have hvb := Num.b01_bd (Num.cmpB 32 (70 + (k : Nat)) X Y)
        have HS := hide (ord_step (unhide HO) hlt)
        have HB2 := hide ((unhide HB).setCell (p := ⟨w.heap.size, k, none⟩) (Nat.le_refl _) (.int .u64 (Num.b01 (Num.cmpB 32 (70 + (k : Nat)) X Y))))
        have hcall := unhide H1 k hlt
        clear HO
        generalize Num.b01 (Num.cmpB 32 (70 + (k : Nat)) X Y) = v at *
        have HK := hide hcall; clear hcall
        go_wp2_with fail
        refine (unhide HK _).mono ?_
        rintro e w1 ⟨rfl, rfl⟩
        clear HK
        go_wp2_with fail
        exact ⟨⟨k + 1, by go_num, by omega, unhide HB2, unhide HS⟩, by simp [intOf]; omega⟩
      · obtain rfl : k = 10 := by omega
        clear H1 hlt hk
        rcases unhide HC with hv | hv | hv | hv | hv
        all_goals
          clear HC
          have c0 := ord_read (unhide HO) 0 _ (by omega) (hv 0 (by omega))
          have c1 := ord_read (unhide HO) 1 _ (by omega) (hv 1 (by omega))
          have c2 := ord_read (unhide HO) 2 _ (by omega) (hv 2 (by omega))
          have c3 := ord_read (unhide HO) 3 _ (by omega) (hv 3 (by omega))
          have c4 := ord_read (unhide HO) 4 _ (by omega) (hv 4 (by omega))
          have c5 := ord_read (unhide HO) 5 _ (by omega) (hv 5 (by omega))
          have c6 := ord_read (unhide HO) 6 _ (by omega) (hv 6 (by omega))
          have c7 := ord_read (unhide HO) 7 _ (by omega) (hv 7 (by omega))
          have c8 := ord_read (unhide HO) 8 _ (by omega) (hv 8 (by omega))
          have c9 := ord_read (unhide HO) 9 _ (by omega) (hv 9 (by omega))
          simp only [List.getD_cons_zero, List.getD_cons_succ] at c0 c1 c2 c3 c4 c5 c6 c7 c8 c9
          clear HO hv
          go_wp2_with fail
          refine (sure_any _).mono ?_
          rintro e w1 ⟨rfl, rfl⟩
          go_wp2
          go_ret
          exact ⟨rfl, unhide HB⟩
  · have e1 := fun (k : Nat) (hk : k < 10) wx => two_cmp 64 (.inr rfl) (70 + k) (81 + k) a1 a2 (by rw [Num.opc_64, if_pos (by omega)]; omega) (by omega) wx b0 (by omega) b2 (by omega)
    obtain ⟨X, Y, hXY, hcase⟩ := ord_cases 64 (.inr rfl) a1 a2
    rw [hXY.1, hXY.2] at e1
    have H1 := hide e1; have HC := hide hcase; clear e1 hXY hcase
    go_enter Tryd.func8, Tryd.ntmps8
    go_wp2_with fail
    go_loopw [9] (fun c wr => ∃ (k : Nat), c = .int .i64 k ∧ k ≤ 10 ∧ Below w.heap.size w wr ∧ ordAt wr w.heap.size (fun j => Num.b01 (Num.cmpB 64 (70 + (j : Nat)) X Y)) k) (fun c _ => 10 - (intOf c).toNat)
    case atStart => exact ⟨0, rfl, by omega, (Below.refl _ _).alloc (Nat.le_refl _) _, ord_start w _⟩
    case round =>
      obtain ⟨k, rfl, hk, hbel, hord⟩ := hrel
      have HB := hide hbel; have HO := hide hord; clear hbel hord
      by_cases hlt : k < 10
      · have hcell := ((unhide HO) k hlt).1
        have hfro := ((unhide HO) k hlt).2
        have hvb := Num.b01_bd (Num.cmpB 64 (70 + (k : Nat)) X Y)
        have HS := hide (ord_step (unhide HO) hlt)
        have HB2 := hide ((unhide HB).setCell (p := ⟨w.heap.size, k, none⟩) (Nat.le_refl _) (.int .u64 (Num.b01 (Num.cmpB 64 (70 + (k : Nat)) X Y))))
        have hcall := unhide H1 k hlt
        clear HO
        generalize Num.b01 (Num.cmpB 64 (70 + (k : Nat)) X Y) = v at *
        have HK := hide hcall; clear hcall
        go_wp2_with fail
        refine (unhide HK _).mono ?_
        rintro e w1 ⟨rfl, rfl⟩
        clear HK
        go_wp2_with fail
        exact ⟨⟨k + 1, by go_num, by omega, unhide HB2, unhide HS⟩, by simp [intOf]; omega⟩
      · obtain rfl : k = 10 := by omega
        clear H1 hlt hk
        rcases unhide HC with hv | hv | hv | hv | hv
        all_goals
          clear HC
          have c0 := ord_read (unhide HO) 0 _ (by omega) (hv 0 (by omega))
          have c1 := ord_read (unhide HO) 1 _ (by omega) (hv 1 (by omega))
          have c2 := ord_read (unhide HO) 2 _ (by omega) (hv 2 (by omega))
          have c3 := ord_read (unhide HO) 3 _ (by omega) (hv 3 (by omega))
          have c4 := ord_read (unhide HO) 4 _ (by omega) (hv 4 (by omega))
          have c5 := ord_read (unhide HO) 5 _ (by omega) (hv 5 (by omega))
          have c6 := ord_read (unhide HO) 6 _ (by omega) (hv 6 (by omega))
          have c7 := ord_read (unhide HO) 7 _ (by omega) (hv 7 (by omega))
          have c8 := ord_read (unhide HO) 8 _ (by omega) (hv 8 (by omega))
          have c9 := ord_read (unhide HO) 9 _ (by omega) (hv 9 (by omega))
          simp only [List.getD_cons_zero, List.getD_cons_succ] at c0 c1 c2 c3 c4 c5 c6 c7 c8 c9
          clear HO hv
          go_wp2_with fail
          refine (sure_any _).mono ?_
          rintro e w1 ⟨rfl, rfl⟩
          go_wp2
          go_ret
          exact ⟨rfl, unhide HB⟩

theorem laidWorld_met (os : Os) (args : Array Value) : laidMetH Tryd.prog Rows.numOrdersRow.laid (({ World.holding Tryd.prog os ⟨#[], #[], []⟩ with heap := ((World.holding Tryd.prog os ⟨#[], #[], []⟩).heap.modify 0 fun | .cells _ t frozen => .cells #[.int .u8 0, .int .u8 1, .int .u8 56, .int .u8 2, .int .u8 57, .int .u8 49, .int .u8 28, .int .u8 3, .int .u8 61, .int .u8 58, .int .u8 42, .int .u8 50, .int .u8 38, .int .u8 29, .int .u8 17, .int .u8 4, .int .u8 62, .int .u8 47, .int .u8 59, .int .u8 36, .int .u8 45, .int .u8 43, .int .u8 51, .int .u8 22, .int .u8 53, .int .u8 39, .int .u8 33, .int .u8 30, .int .u8 24, .int .u8 18, .int .u8 12, .int .u8 5, .int .u8 63, .int .u8 55, .int .u8 48, .int .u8 27, .int .u8 60, .int .u8 41, .int .u8 37, .int .u8 16, .int .u8 46, .int .u8 35, .int .u8 44, .int .u8 21, .int .u8 52, .int .u8 32, .int .u8 23, .int .u8 11, .int .u8 54, .int .u8 26, .int .u8 40, .int .u8 15, .int .u8 34, .int .u8 20, .int .u8 31, .int .u8 10, .int .u8 25, .int .u8 14, .int .u8 19, .int .u8 9, .int .u8 13, .int .u8 8, .int .u8 7, .int .u8 6] t frozen | o => o) } : World).forCall (fun _ _ => 0) ⟨#[], args, []⟩).memory :=
  laidMetH_of_parts (laidMet_of_run' 8 (by kernel_rfl) (by kernel_rfl)) (by kernel_rfl)

set_option maxRecDepth 100000 in
theorem lifted (os : Os) (started : os.Started) (H : Type) (enc : TypeId × Value → H) :
    ReturnsInHanded {} Tryd.checked os 8 .any (fun w args => (Rows.numOrdersSpec.pre enc Tryd.prog Tryd.f8 [] false w args ∧ laidMetH Tryd.prog Rows.numOrdersRow.laid w) ∧ sizedMet enc Tryd.prog Tryd.f8 (OpenSpec.ofChange Rows.numOrdersSpec) false w args) (Rows.numOrdersSpec.post enc Tryd.prog Tryd.f8 false true false false) := by
  refine returnsInHanded_of_change_and (C := Tryd.checked) (X := fun w _ => laidMetH Tryd.prog Rows.numOrdersRow.laid w) (fun _ _ _ hh h => h.of_heap hh) own started (by kernel_rfl) Tryd.func8
    (ChangeSpec.witness_at (enc := enc) (C := Tryd.checked) (os := os) (X := fun w _ => laidMetH Tryd.prog Rows.numOrdersRow.laid w) false ({ World.holding Tryd.prog os ⟨#[], #[], []⟩ with heap := ((World.holding Tryd.prog os ⟨#[], #[], []⟩).heap.modify 0 fun | .cells _ t frozen => .cells #[.int .u8 0, .int .u8 1, .int .u8 56, .int .u8 2, .int .u8 57, .int .u8 49, .int .u8 28, .int .u8 3, .int .u8 61, .int .u8 58, .int .u8 42, .int .u8 50, .int .u8 38, .int .u8 29, .int .u8 17, .int .u8 4, .int .u8 62, .int .u8 47, .int .u8 59, .int .u8 36, .int .u8 45, .int .u8 43, .int .u8 51, .int .u8 22, .int .u8 53, .int .u8 39, .int .u8 33, .int .u8 30, .int .u8 24, .int .u8 18, .int .u8 12, .int .u8 5, .int .u8 63, .int .u8 55, .int .u8 48, .int .u8 27, .int .u8 60, .int .u8 41, .int .u8 37, .int .u8 16, .int .u8 46, .int .u8 35, .int .u8 44, .int .u8 21, .int .u8 52, .int .u8 32, .int .u8 23, .int .u8 11, .int .u8 54, .int .u8 26, .int .u8 40, .int .u8 15, .int .u8 34, .int .u8 20, .int .u8 31, .int .u8 10, .int .u8 25, .int .u8 14, .int .u8 19, .int .u8 9, .int .u8 13, .int .u8 8, .int .u8 7, .int .u8 6] t frozen | o => o) } : World) #[.bool false, .int .u64 0, .int .u64 0] 8 rfl (by kernel_rfl) (by kernel_rfl) (by kernel_rfl) (by kernel_rfl) (by kernel_rfl) (laidWorld_met os _)) ?_
  intro W base args ds gs before hval0 hW _ _ hL _
  have hval : ∀ (j : Nat) t v, Tryd.f8.params[j]? = some t → args[j]? = some v → Value.okWide Tryd.prog W .any base t v := hval0
  have hW' := hW
  obtain ⟨p, q, hA0, hV, rfl, hfz, hnd⟩ := hW
  have hA : DataW.TrodAll enc Tryd.prog W 0 (fun _ => true) true Tryd.f8.params.toList args.toList ds p := hA0
  rw [Tryd.params8] at hA hval
  obtain ⟨v0, vs0, d0, ds0, p0, q0, hargs, rfl, rfl, h0, r0⟩ := trodAll_cons hA
  obtain ⟨v1, vs1, d1, ds1, p1, q1, rfl, rfl, rfl, h1, r1⟩ := trodAll_cons r0
  obtain ⟨v2, vs2, d2, ds2, p2, q2, rfl, rfl, rfl, h2, r2⟩ := trodAll_cons r1
  obtain ⟨rfl, rfl, rfl⟩ := trodAll_nil r2
  obtain rfl : args = #[v0, v1, v2] := by cases args; simp_all
  obtain ⟨rfl, rfl⟩ := trodVars_none hV
  obtain ⟨a0, rfl, rfl, rfl⟩ := open_bool Tryd.underlying4 (hval 0 4 v0 rfl rfl) h0
  obtain ⟨a1, rfl, rfl, rfl, w1⟩ := open_int Tryd.underlying22 (hval 1 22 v1 rfl rfl) h1
  obtain ⟨a2, rfl, rfl, rfl, w2⟩ := open_int Tryd.underlying22 (hval 2 22 v2 rfl rfl) h2
  clear hA0 hval0
  refine (walk a0 a1 a2 w1 w2 W).mono fun e W' ⟨he, bel⟩ => ?_
  subst he
  exact ⟨_, rfl, _, _, _, [], _, [], hW', trodAll_mk1 (shut_bool Tryd.underlying4 _), (trodAll_cons_mk (shut_bool Tryd.underlying4 _) (trodAll_cons_mk (shut_int Tryd.underlying22 w1) (trodAll_cons_mk (shut_int Tryd.underlying22 w2) trodAll_mk0))), rfl, bel.frame _, fun h => by cases h⟩

theorem over : Rows.numOrdersRow.holds Tryd.pinned (OpenSpec.ofChange Rows.numOrdersSpec) :=
  OpenClaim.holds_of_wide 8 Tryd.f8 rfl rfl rfl rfl rfl rfl rfl ⟨rfl, rfl, rfl, rfl, rfl⟩ rfl rfl rfl rfl rfl (by kernel_rfl) Tryd.func8 (by kernel_rfl)
    (of_decide_eq_true (by kernel_rfl)) (by unfold Func.isWrapper; first | (rw [if_pos (by decide +kernel)]; kernel_rfl) | (rw [if_neg (by decide +kernel)]; exact ⟨rfl, rfl⟩))
    (fun os started H enc _ => lifted os started H enc)

theorem proved : Rows.NumOrdersSaid :=
  over
end Go.Proofs.YtkmigcegeffonaaDoor.numOrders

namespace Go.Proofs.YtkmigcegeffonaaDoor
theorem numOrders_holds : Rows.NumOrdersSaid := numOrders.proved
theorem numOrders_card : Rows.NumOrdersCardSaid :=
  Claim7.holds_tied_plain_at .later [] [.data] true (true, "1dd1b51f4bebecc51485d96a13d6f51d41b85291c12fa707e29d821af03aec68") true
    numOrders_holds (fun _ h => by cases h) (by kernel_rfl) (fun _ h => by cases h) numOrders_row_tie rfl ⟨rfl, rfl⟩ (by kernel_rfl) rfl
    (fun f fn hf hfn => by
      obtain rfl : 8 = f := Option.some.inj (Eq.trans (by kernel_rfl) hf)
      obtain rfl : fn = Tryd.f8 := (Option.some.inj (Tryd.func8.symm.trans hfn)).symm
      exact ⟨by kernel_rfl, fun j t ht => by
        rw [Tryd.params8] at ht
        rcases j with _ | _ | _ | j
        · obtain rfl : t = 4 := by simpa using ht.symm
          exact (show Tryd.prog.wantsStandIn 4 = false by kernel_rfl)
        · obtain rfl : t = 22 := by simpa using ht.symm
          exact (show Tryd.prog.wantsStandIn 22 = false by kernel_rfl)
        · obtain rfl : t = 22 := by simpa using ht.symm
          exact (show Tryd.prog.wantsStandIn 22 = false by kernel_rfl)
        · simp at ht⟩)
    (by kernel_rfl)
end Go.Proofs.YtkmigcegeffonaaDoor
