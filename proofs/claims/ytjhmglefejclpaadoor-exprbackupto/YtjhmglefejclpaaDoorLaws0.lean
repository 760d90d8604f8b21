/- The contracts as the laws use them: each result, and that nothing that was there has turned. -/
import Derived.Test.YtjhmglefejclpaaDoorOn
import Derived.Test.YtjhmglefejclpaaDoorTakeS
import Derived.Test.YtjhmglefejclpaaDoorPuts
namespace Go.Proofs.YtjhmglefejclpaaDoor
open Go.RowKit
set_option linter.unusedVariables false

theorem takeU_b (a : Option Addr) (len cap : Nat) (zs : List Int) (n : Int) (w : World) (hrow : Row w a len zs) (hcap : len ≤ cap) (hreach : len ≤ 9223372036854775807) :
    Calls Tryd.prog 93 #[.slice a len cap, .int .i64 n] w fun e w' => e = .returned (.tuple #[.int .u64 (Leb.tuV zs n), .int .i64 (Leb.tuN zs n), errV (Leb.tuE zs n)]) ∧ Below w.heap.size w w' :=
  (takeU_any a len cap zs n w hrow hcap hreach).mono fun _ _ ⟨h, m, h'⟩ => ⟨h, by rw [h']; exact below_drewN (Below.refl _ _) _⟩
theorem takeS_b (a : Option Addr) (len cap : Nat) (zs : List Int) (n : Int) (w : World) (hrow : Row w a len zs) (hcap : len ≤ cap) (hreach : len ≤ 9223372036854775807) :
    Calls Tryd.prog 80 #[.slice a len cap, .int .i64 n] w fun e w' => e = .returned (.tuple #[.int .i64 (Leb.tsV zs n), .int .i64 (Leb.tsN zs n), errV (Leb.tsE zs n)]) ∧ Below w.heap.size w w' :=
  (takeS_any a len cap zs n w hrow hcap hreach).mono fun _ _ ⟨h, h'⟩ => ⟨h, by rw [← h']; exact Below.refl _ _⟩

theorem own_cap {w : World} {base e size g n cap : Nat} {xs : List Value} (h : w.ownsRow base e size (.slice (some ⟨g, 0, none⟩) n cap) n xs) : n ≤ cap := by
  rcases h.2 with ⟨h, _⟩ | ⟨g', cap', cur, h, _, _, h1, _⟩
  · simp at h
  · simp at h; omega

theorem putU_b (a : Option Addr) (len cap : Nat) (zs : List Int) (v : Int) (w : World) (hrow : Row w a len zs) (h0 : 0 ≤ v) (hv : v < 18446744073709551616) (hreach : len ≤ 140737488351232) :
    Calls Tryd.prog 78 #[.slice a len cap, .int .u64 v] w fun e w' => ∃ g cap', e = .returned (.slice (some ⟨g, 0, none⟩) (len + (Leb.bU 10 v).length) cap') ∧
      Row w' (some ⟨g, 0, none⟩) (len + (Leb.bU 10 v).length) (zs ++ Leb.bU 10 v) ∧ len + (Leb.bU 10 v).length ≤ cap' ∧ w.heap.size ≤ g ∧ Below w.heap.size w w' :=
  (putU_any a len cap zs v w hrow h0 hv hreach).mono fun _ w' ⟨c, h, h1, h2⟩ => ⟨w.heap.size, c, h, Row.own h1 (fun z hz => by
    rcases List.mem_append.1 hz with hz | hz
    · exact hrow.2.1 z hz
    · exact Leb.bU_bytes 10 v h0 (by omega) z hz), own_cap h1, Nat.le_refl _, h2⟩
theorem putS_b (a : Option Addr) (len cap : Nat) (zs : List Int) (v : Int) (w : World) (hrow : Row w a len zs) (h0 : -9223372036854775808 ≤ v) (hv : v < 9223372036854775808) (hreach : len ≤ 140737488351232) :
    Calls Tryd.prog 77 #[.slice a len cap, .int .i64 v] w fun e w' => ∃ g cap', e = .returned (.slice (some ⟨g, 0, none⟩) (len + (Leb.bS 10 v).length) cap') ∧
      Row w' (some ⟨g, 0, none⟩) (len + (Leb.bS 10 v).length) (zs ++ Leb.bS 10 v) ∧ len + (Leb.bS 10 v).length ≤ cap' ∧ w.heap.size ≤ g ∧ Below w.heap.size w w' :=
  (putS_any a len cap zs v w hrow h0 hv hreach).mono fun _ w' ⟨c, h, h1, h2⟩ => ⟨w.heap.size, c, h, Row.own h1 (fun z hz => by
    rcases List.mem_append.1 hz with hz | hz
    · exact hrow.2.1 z hz
    · exact Leb.bS_bytes 10 v z hz), own_cap h1, Nat.le_refl _, h2⟩

end Go.Proofs.YtjhmglefejclpaaDoor
