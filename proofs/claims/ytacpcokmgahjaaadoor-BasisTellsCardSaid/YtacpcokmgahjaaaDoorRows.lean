/-
  NARROWER THAN 'FOR EVERY INPUT', by the rows' own cells (each row's printed sentence says how): BasisTells: calm, laid · BasisRight: calm, laid · BasisDates: calm, laid · BasisOnce: calm, laid · BasisNone: calm, laid.
  DERIVED. THE GIVEN ROWS OF THIS SEAT. 5 by the template 'for every input the law returns true; each argument reads behind the call as it read before'; 0 by the template 'total and deterministic' (their statements: YtacpcokmgahjaaaDoorTotals.lean).
  GIVEN WITH THE SEED: the statements are not yours to turn. If you find one false, say at which input.
  Laid BY PROGRAM, IN A SANDBOX (cutbox-rows.mjs): the forced cells as the released guide's own fill.sh prints them over the translation 3afab2385a85117e… (all of the seat's roots in one cut). By AI agents, Wed Nov 11 2026. No macro, syntax, notation, axiom, sorry.
-/
import Derived.Test.YtacpcokmgahjaaaDoorChecked
import GoSem.Claim
import GoSem.ClaimJoined
import GoSem.ClaimMapViews
import Derived.JoinedTies
import Derived.KernelRfl
namespace Go.Proofs.YtacpcokmgahjaaaDoor
/- THE CELL 'sum', in the pinned program and in every row, IS THE sha256 OF THE DUMP (.gsa) THAT YtacpcokmgahjaaaDoorProg.lean LOADS. Nothing in Lean hashes anything: it is a label: what it is worth is what the hold of that sum in a sandbox is worth. -/
noncomputable def Tryd.pinned : Pinned := { name := "ytacpcokmgahjaaadoor", sum := "3afab2385a85117e3bb40e9b977e644ed365e606ac5751f45c663c40b5b70fde", checked := Tryd.checked }
namespace Rows
def none {H : Type} : Left H := { results := [], args := [] }

/- WHAT THE LISTED PACKAGE-LEVEL VARIABLES READ AS WHEN THE CALL BEGINS. Each datum BY PROGRAM (the guide's laid-datum.mjs) off the statement by which the dump's own 'gosem.cut.vars' lays the variable. In a bare row this is a premise. The card (YtacpcokmgahjaaaDoorCards.lean) ties it to the program's text. -/
def laid_epact_civil_ahead {H : Type} : DataW H := .agg [.lit (.int .i64 0), .lit (.int .i64 31), .lit (.int .i64 59), .lit (.int .i64 90), .lit (.int .i64 120), .lit (.int .i64 151), .lit (.int .i64 181), .lit (.int .i64 212), .lit (.int .i64 243), .lit (.int .i64 273), .lit (.int .i64 304), .lit (.int .i64 334), .lit (.int .i64 365)]

/-- 'epactlaw08.BasisTells': WHATEVER THE INPUT: true; the input reads as it did. -/
def basisTellsSpec : ChangeSpec := { name := "basisTells", fn := fun _ => fun
  | [d] => { results := [.lit (.bool true)], args := [d] }
  | _ => none }
def basisTellsRow : OpenClaim := { program := "ytacpcokmgahjaaadoor", sum := "3afab2385a85117e3bb40e9b977e644ed365e606ac5751f45c663c40b5b70fde", func := "epact/epactlaw08.BasisTells", spec := "basisTells", inPlace := ["sync/atomic.AddInt64", "sync/atomic.LoadUint32", "(*internal/sync.Mutex).Lock", "internal/race.Disable", "sync/atomic.CompareAndSwapInt32", "internal/race.Enable", "internal/race.Acquire", "(*internal/sync.Mutex).lockSlow", "internal/sync.runtime_canSpin", "internal/sync.runtime_doSpin", "internal/sync.throw", "internal/sync.runtime_nanotime", "internal/sync.runtime_SemacquireMutex", "sync/atomic.AddInt32", "(*internal/sync.Mutex).Unlock", "internal/race.ReleaseMerge", "(*internal/sync.Mutex).unlockSlow", "internal/sync.fatal", "internal/sync.runtime_Semrelease", "sync/atomic.StoreUint32", "sync/atomic.LoadInt64"], unfollowed := true, recurses := true, named := ["epact/civil.ahead"], leaving := true, apart := false, calm := true, outside := [.timePasses], laid := [("epact/civil.ahead", laid_epact_civil_ahead)] }
def BasisTellsSaid : Prop := basisTellsRow.holds Tryd.pinned (OpenSpec.ofChange basisTellsSpec)

/-- ITS FALSE NEIGHBOUR: 'it returns false'. Refute it at one input. -/
def basisTellsWrong : ChangeSpec := { name := "basisTells", fn := fun _ => fun
  | [d] => { results := [.lit (.bool false)], args := [d] }
  | _ => none }
def BasisTellsWrongFalsely : Prop := basisTellsRow.holds Tryd.pinned (OpenSpec.ofChange basisTellsWrong)

/-- 'epactlaw08.BasisRight': WHATEVER THE INPUT: true; the input reads as it did. -/
def basisRightSpec : ChangeSpec := { name := "basisRight", fn := fun _ => fun
  | [d1, d2] => { results := [.lit (.bool true)], args := [d1, d2] }
  | _ => none }
def basisRightRow : OpenClaim := { program := "ytacpcokmgahjaaadoor", sum := "3afab2385a85117e3bb40e9b977e644ed365e606ac5751f45c663c40b5b70fde", func := "epact/epactlaw08.BasisRight", spec := "basisRight", inPlace := ["sync/atomic.AddInt64", "sync/atomic.LoadUint32", "(*internal/sync.Mutex).Lock", "internal/race.Disable", "sync/atomic.CompareAndSwapInt32", "internal/race.Enable", "internal/race.Acquire", "(*internal/sync.Mutex).lockSlow", "internal/sync.runtime_canSpin", "internal/sync.runtime_doSpin", "internal/sync.throw", "internal/sync.runtime_nanotime", "internal/sync.runtime_SemacquireMutex", "sync/atomic.AddInt32", "(*internal/sync.Mutex).Unlock", "internal/race.ReleaseMerge", "(*internal/sync.Mutex).unlockSlow", "internal/sync.fatal", "internal/sync.runtime_Semrelease", "sync/atomic.StoreUint32", "sync/atomic.LoadInt64"], unfollowed := true, recurses := true, named := ["epact/civil.ahead"], leaving := true, apart := false, calm := true, outside := [.timePasses], laid := [("epact/civil.ahead", laid_epact_civil_ahead)] }
def BasisRightSaid : Prop := basisRightRow.holds Tryd.pinned (OpenSpec.ofChange basisRightSpec)

/-- ITS FALSE NEIGHBOUR: 'it returns false'. Refute it at one input. -/
def basisRightWrong : ChangeSpec := { name := "basisRight", fn := fun _ => fun
  | [d1, d2] => { results := [.lit (.bool false)], args := [d1, d2] }
  | _ => none }
def BasisRightWrongFalsely : Prop := basisRightRow.holds Tryd.pinned (OpenSpec.ofChange basisRightWrong)

/-- 'epactlaw08.BasisDates': WHATEVER THE INPUT: true; the input reads as it did. -/
def basisDatesSpec : ChangeSpec := { name := "basisDates", fn := fun _ => fun
  | [d1, d2, d3] => { results := [.lit (.bool true)], args := [d1, d2, d3] }
  | _ => none }
def basisDatesRow : OpenClaim := { program := "ytacpcokmgahjaaadoor", sum := "3afab2385a85117e3bb40e9b977e644ed365e606ac5751f45c663c40b5b70fde", func := "epact/epactlaw08.BasisDates", spec := "basisDates", inPlace := ["sync/atomic.AddInt64", "sync/atomic.LoadUint32", "(*internal/sync.Mutex).Lock", "internal/race.Disable", "sync/atomic.CompareAndSwapInt32", "internal/race.Enable", "internal/race.Acquire", "(*internal/sync.Mutex).lockSlow", "internal/sync.runtime_canSpin", "internal/sync.runtime_doSpin", "internal/sync.throw", "internal/sync.runtime_nanotime", "internal/sync.runtime_SemacquireMutex", "sync/atomic.AddInt32", "(*internal/sync.Mutex).Unlock", "internal/race.ReleaseMerge", "(*internal/sync.Mutex).unlockSlow", "internal/sync.fatal", "internal/sync.runtime_Semrelease", "sync/atomic.StoreUint32", "sync/atomic.LoadInt64"], unfollowed := true, recurses := true, named := ["epact/civil.ahead"], leaving := true, apart := false, calm := true, outside := [.timePasses], laid := [("epact/civil.ahead", laid_epact_civil_ahead)] }
def BasisDatesSaid : Prop := basisDatesRow.holds Tryd.pinned (OpenSpec.ofChange basisDatesSpec)

/-- ITS FALSE NEIGHBOUR: 'it returns false'. Refute it at one input. -/
def basisDatesWrong : ChangeSpec := { name := "basisDates", fn := fun _ => fun
  | [d1, d2, d3] => { results := [.lit (.bool false)], args := [d1, d2, d3] }
  | _ => none }
def BasisDatesWrongFalsely : Prop := basisDatesRow.holds Tryd.pinned (OpenSpec.ofChange basisDatesWrong)

/-- 'epactlaw08.BasisOnce': WHATEVER THE INPUT: true; the input reads as it did. -/
def basisOnceSpec : ChangeSpec := { name := "basisOnce", fn := fun _ => fun
  | [d1, d2] => { results := [.lit (.bool true)], args := [d1, d2] }
  | _ => none }
def basisOnceRow : OpenClaim := { program := "ytacpcokmgahjaaadoor", sum := "3afab2385a85117e3bb40e9b977e644ed365e606ac5751f45c663c40b5b70fde", func := "epact/epactlaw08.BasisOnce", spec := "basisOnce", inPlace := ["(*sync.WaitGroup).Add", "internal/race.ReleaseMerge", "internal/race.Disable", "internal/race.Enable", "internal/synctest.IsInBubble", "internal/synctest.Associate[sync.WaitGroup]", "sync.fatal", "sync/atomic.OrUint64", "sync/atomic.AddUint64", "internal/race.Read", "sync/atomic.LoadUint64", "sync/atomic.StoreUint64", "internal/synctest.Disassociate[sync.WaitGroup]", "sync.runtime_Semrelease", "(*sync.WaitGroup).Done", "sync/atomic.AddInt64", "sync/atomic.LoadUint32", "(*internal/sync.Mutex).Lock", "sync/atomic.CompareAndSwapInt32", "internal/race.Acquire", "(*internal/sync.Mutex).lockSlow", "internal/sync.runtime_canSpin", "internal/sync.runtime_doSpin", "internal/sync.throw", "internal/sync.runtime_nanotime", "internal/sync.runtime_SemacquireMutex", "sync/atomic.AddInt32", "(*internal/sync.Mutex).Unlock", "(*internal/sync.Mutex).unlockSlow", "internal/sync.fatal", "internal/sync.runtime_Semrelease", "sync/atomic.StoreUint32", "(*sync.WaitGroup).Wait", "internal/synctest.IsAssociated[sync.WaitGroup]", "sync/atomic.CompareAndSwapUint64", "internal/race.Write", "sync.runtime_SemacquireWaitGroup", "sync/atomic.LoadInt64"], unfollowed := true, recurses := true, named := ["epact/civil.ahead"], leaving := true, apart := false, calm := true, outside := [.timePasses], laid := [("epact/civil.ahead", laid_epact_civil_ahead)] }
def BasisOnceSaid : Prop := basisOnceRow.holds Tryd.pinned (OpenSpec.ofChange basisOnceSpec)

/-- ITS FALSE NEIGHBOUR: 'it returns false'. Refute it at one input. -/
def basisOnceWrong : ChangeSpec := { name := "basisOnce", fn := fun _ => fun
  | [d1, d2] => { results := [.lit (.bool false)], args := [d1, d2] }
  | _ => none }
def BasisOnceWrongFalsely : Prop := basisOnceRow.holds Tryd.pinned (OpenSpec.ofChange basisOnceWrong)

/-- 'epactlaw08.BasisNone': WHATEVER THE INPUT: true; the input reads as it did. -/
def basisNoneSpec : ChangeSpec := { name := "basisNone", fn := fun _ => fun
  | [d] => { results := [.lit (.bool true)], args := [d] }
  | _ => none }
def basisNoneRow : OpenClaim := { program := "ytacpcokmgahjaaadoor", sum := "3afab2385a85117e3bb40e9b977e644ed365e606ac5751f45c663c40b5b70fde", func := "epact/epactlaw08.BasisNone", spec := "basisNone", inPlace := ["sync/atomic.AddInt64", "sync/atomic.LoadUint32", "(*internal/sync.Mutex).Lock", "internal/race.Disable", "sync/atomic.CompareAndSwapInt32", "internal/race.Enable", "internal/race.Acquire", "(*internal/sync.Mutex).lockSlow", "internal/sync.runtime_canSpin", "internal/sync.runtime_doSpin", "internal/sync.throw", "internal/sync.runtime_nanotime", "internal/sync.runtime_SemacquireMutex", "sync/atomic.AddInt32", "(*internal/sync.Mutex).Unlock", "internal/race.ReleaseMerge", "(*internal/sync.Mutex).unlockSlow", "internal/sync.fatal", "internal/sync.runtime_Semrelease", "sync/atomic.StoreUint32", "sync/atomic.LoadInt64"], unfollowed := true, recurses := true, named := ["epact/civil.ahead"], leaving := true, apart := false, calm := true, outside := [.timePasses], laid := [("epact/civil.ahead", laid_epact_civil_ahead)] }
def BasisNoneSaid : Prop := basisNoneRow.holds Tryd.pinned (OpenSpec.ofChange basisNoneSpec)

/-- ITS FALSE NEIGHBOUR: 'it returns false'. Refute it at one input. -/
def basisNoneWrong : ChangeSpec := { name := "basisNone", fn := fun _ => fun
  | [d] => { results := [.lit (.bool false)], args := [d] }
  | _ => none }
def BasisNoneWrongFalsely : Prop := basisNoneRow.holds Tryd.pinned (OpenSpec.ofChange basisNoneWrong)

end Rows
end Go.Proofs.YtacpcokmgahjaaaDoor
