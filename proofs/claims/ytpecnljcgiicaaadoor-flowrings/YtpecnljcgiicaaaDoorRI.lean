/- flow: rings of jumps: all of them. -/
import Derived.Test.YtpecnljcgiicaaaDoorRH

/- flow: rings of jumps: what is asked of each, reckoned by the kernel. -/
namespace Go.Proofs.YtpecnljcgiicaaaDoor
open Go.RowKit
namespace Fw
set_option linter.unusedVariables false
set_option linter.unusedSimpArgs false
open Vc (NumsL Nums Lies LL Bls BlC InC Bl Co WfC WfB WfI chk siz)

theorem okR19 : ((List.range 19).all fun a => okR 19 a) = true := by decide +kernel
theorem okR20 : ((List.range 20).all fun a => okR 20 a) = true := by decide +kernel
end Fw
end Go.Proofs.YtpecnljcgiicaaaDoor

/- flow: rings of jumps: all of them. -/
namespace Go.Proofs.YtpecnljcgiicaaaDoor
open Go.RowKit
namespace Fw
set_option linter.unusedVariables false
set_option linter.unusedSimpArgs false
open Vc (NumsL Nums Lies LL Bls BlC InC Bl Co WfC WfB WfI chk siz)

theorem okR_all (m : Nat) (hm : m ≤ 20) : ((List.range m).all fun a => okR m a) = true :=
  match m, hm with
  | 0, _ => okR0
  | 1, _ => okR1
  | 2, _ => okR2
  | 3, _ => okR3
  | 4, _ => okR4
  | 5, _ => okR5
  | 6, _ => okR6
  | 7, _ => okR7
  | 8, _ => okR8
  | 9, _ => okR9
  | 10, _ => okR10
  | 11, _ => okR11
  | 12, _ => okR12
  | 13, _ => okR13
  | 14, _ => okR14
  | 15, _ => okR15
  | 16, _ => okR16
  | 17, _ => okR17
  | 18, _ => okR18
  | 19, _ => okR19
  | 20, _ => okR20
  | _ + 21, h => absurd h (by omega)
structure RgOk (m a : Nat) : Prop where
  ck : chk (rgC m a) = true
  lf : (walk (nxs (rg m a m))).lf.length = m
  lp : ∃ bs, loops (nxs (rg m a m)) = [(a, bs)] ∧ bs.length = m - a
  th : Vc.sC ⟨0, 1, false, thrB (rg m a m)⟩ (rgC m a) = true
  jn : (joinB (rg m a m)).length = if a = 0 then 1 else 2
  en : EndsAll (trimB (rg m a m))
theorem rg_ok {m a : Nat} (hm : m ≤ 20) (ha : a < m) : RgOk m a := by
  have h1 := okR_all m hm
  rw [List.all_eq_true] at h1
  have h2 := h1 a (by rw [List.mem_range]; exact ha)
  unfold okR at h2
  simp only [Bool.and_eq_true, decide_eq_true_eq] at h2
  obtain ⟨⟨⟨⟨⟨k1, k2⟩, k3⟩, k4⟩, k5⟩, k6⟩ := h2
  refine ⟨k1, k2, ?_, k4, by rw [joinC_eq]; exact k5, ?_⟩
  · unfold loopB at k3
    split at k3
    · rename_i hh bs e
      simp only [Bool.and_eq_true, decide_eq_true_eq] at k3
      exact ⟨bs, by rw [e, k3.1], k3.2⟩
    · cases k3
  · rw [trimC_eq]
    intro i hi hj
    unfold endsB at k6
    rw [List.all_eq_true] at k6
    have := k6 i (by rw [List.mem_range]; exact hi)
    rw [hj] at this
    simpa using this
end Fw
end Go.Proofs.YtpecnljcgiicaaaDoor
