/- flow: rings of jumps: what is asked of each, reckoned by the kernel. -/
import Derived.Test.YtpecnljcgiicaaaDoorRG

/- flow: rings of jumps: what is asked of each. -/
namespace Go.Proofs.YtpecnljcgiicaaaDoor
open Go.RowKit
namespace Fw
set_option linter.unusedVariables false
set_option linter.unusedSimpArgs false
open Vc (NumsL Nums Lies LL Bls BlC InC Bl Co WfC WfB WfI chk siz)

def rgB (m a i : Nat) : Bl := ⟨[jmpI], [if i + 1 = m then (a : Int) else ((i + 1 : Nat) : Int)], 0⟩
def rg (m a k : Nat) : List Bl := (List.range k).map (rgB m a)
def rgC (m a : Nat) : Co := ⟨0, 1, false, rg m a m⟩
def loopB (ls : List (Nat × List Nat)) (m a : Nat) : Bool := match ls with
  | [(h, bs)] => decide (h = a) && decide (bs.length = m - a)
  | _ => false
def endsB (l : List Bl) : Bool := (List.range l.length).all fun i => !(jn? (takes l) i) || ends (takes l) l.length i
def okR (m a : Nat) : Bool := chk (rgC m a) && decide ((walk (nxs (rg m a m))).lf.length = m) && loopB (loops (nxs (rg m a m))) m a && Vc.sC ⟨0, 1, false, thrB (rg m a m)⟩ (rgC m a) && decide ((joinC (rg m a m)).length = if a = 0 then 1 else 2) && endsB (trimC (rg m a m))
end Fw
end Go.Proofs.YtpecnljcgiicaaaDoor

/- flow: rings of jumps: what is asked of each, reckoned by the kernel. -/
namespace Go.Proofs.YtpecnljcgiicaaaDoor
open Go.RowKit
namespace Fw
set_option linter.unusedVariables false
set_option linter.unusedSimpArgs false
open Vc (NumsL Nums Lies LL Bls BlC InC Bl Co WfC WfB WfI chk siz)

theorem okR0 : ((List.range 0).all fun a => okR 0 a) = true := by decide +kernel
theorem okR1 : ((List.range 1).all fun a => okR 1 a) = true := by decide +kernel
theorem okR2 : ((List.range 2).all fun a => okR 2 a) = true := by decide +kernel
theorem okR3 : ((List.range 3).all fun a => okR 3 a) = true := by decide +kernel
theorem okR4 : ((List.range 4).all fun a => okR 4 a) = true := by decide +kernel
theorem okR5 : ((List.range 5).all fun a => okR 5 a) = true := by decide +kernel
theorem okR6 : ((List.range 6).all fun a => okR 6 a) = true := by decide +kernel
theorem okR7 : ((List.range 7).all fun a => okR 7 a) = true := by decide +kernel
theorem okR8 : ((List.range 8).all fun a => okR 8 a) = true := by decide +kernel
theorem okR9 : ((List.range 9).all fun a => okR 9 a) = true := by decide +kernel
theorem okR10 : ((List.range 10).all fun a => okR 10 a) = true := by decide +kernel
theorem okR11 : ((List.range 11).all fun a => okR 11 a) = true := by decide +kernel
theorem okR12 : ((List.range 12).all fun a => okR 12 a) = true := by decide +kernel
theorem okR13 : ((List.range 13).all fun a => okR 13 a) = true := by decide +kernel
theorem okR14 : ((List.range 14).all fun a => okR 14 a) = true := by decide +kernel
theorem okR15 : ((List.range 15).all fun a => okR 15 a) = true := by decide +kernel
end Fw
end Go.Proofs.YtpecnljcgiicaaaDoor

/- flow: rings of jumps: what is asked of each, reckoned by the kernel. -/
namespace Go.Proofs.YtpecnljcgiicaaaDoor
open Go.RowKit
namespace Fw
set_option linter.unusedVariables false
set_option linter.unusedSimpArgs false
open Vc (NumsL Nums Lies LL Bls BlC InC Bl Co WfC WfB WfI chk siz)

theorem okR16 : ((List.range 16).all fun a => okR 16 a) = true := by decide +kernel
theorem okR17 : ((List.range 17).all fun a => okR 17 a) = true := by decide +kernel
theorem okR18 : ((List.range 18).all fun a => okR 18 a) = true := by decide +kernel
end Fw
end Go.Proofs.YtpecnljcgiicaaaDoor
