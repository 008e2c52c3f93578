/-
  NARROWER THAN 'FOR EVERY INPUT', by the rows' own cells (each row's printed sentence says how): FnExactCountEnded: calm · FnExactCountOpenPlays: calm.
  DERIVED. THE GIVEN ROWS OF THIS SEAT. 10 by the template 'for every input the law returns true; each argument reads behind the call as it read before'; 0 by the template 'total and deterministic' (their statements: YtooaeafnneikkaaTotals.lean).
  GIVEN WITH THE SEED: the statements are not yours to turn. If you find one false, say at which input.
  Laid BY PROGRAM, IN A SANDBOX (cutbox-rows.mjs): the forced cells as the released guide's own fill.sh prints them over the translation 682c1a679f597ffc… (all of the seat's roots in one cut). By AI agents, Wed Nov 11 2026. No macro, syntax, notation, axiom, sorry.
-/
import Derived.Test.YtooaeafnneikkaaChecked
import GoSem.Claim
import GoSem.ClaimJoined
import GoSem.ClaimMapViews
import Derived.JoinedTies
import Derived.KernelRfl
namespace Go.Proofs.Ytooaeafnneikkaa
/- THE CELL 'sum', in the pinned program and in every row, IS THE sha256 OF THE DUMP (.gsa) THAT YtooaeafnneikkaaProg.lean LOADS. Nothing in Lean hashes anything: it is a label: what it is worth is what the hold of that sum in a sandbox is worth. -/
noncomputable def Try.pinned : Pinned := { name := "ytooaeafnneikkaa", sum := "682c1a679f597ffceca2133e1bc4cdbdf3edc3b8c5610194f987964d92f5a948", checked := Try.checked }
namespace Rows
def none {H : Type} : Left H := { results := [], args := [] }

/-- 'laws.FnExactIsRace': WHATEVER THE INPUT: true; the input reads as it did. -/
def fnExactIsRaceSpec : ChangeSpec := { name := "fnExactIsRace", fn := fun _ => fun
  | [d] => { results := [.lit (.bool true)], args := [d] }
  | _ => none }
def fnExactIsRaceRow : OpenClaim := { program := "ytooaeafnneikkaa", sum := "682c1a679f597ffceca2133e1bc4cdbdf3edc3b8c5610194f987964d92f5a948", func := "loop.example/g01368/laws.FnExactIsRace", spec := "fnExactIsRace", apart := false }
def FnExactIsRaceSaid : Prop := fnExactIsRaceRow.holds Try.pinned (OpenSpec.ofChange fnExactIsRaceSpec)

/-- ITS FALSE NEIGHBOUR: 'it returns false'. Refute it at one input. -/
def fnExactIsRaceWrong : ChangeSpec := { name := "fnExactIsRace", fn := fun _ => fun
  | [d] => { results := [.lit (.bool false)], args := [d] }
  | _ => none }
def FnExactIsRaceWrongFalsely : Prop := fnExactIsRaceRow.holds Try.pinned (OpenSpec.ofChange fnExactIsRaceWrong)

/-- 'laws.FnExactEndsAt': WHATEVER THE INPUT: true; the input reads as it did. -/
def fnExactEndsAtSpec : ChangeSpec := { name := "fnExactEndsAt", fn := fun _ => fun
  | [d1, d2, d3] => { results := [.lit (.bool true)], args := [d1, d2, d3] }
  | _ => none }
def fnExactEndsAtRow : OpenClaim := { program := "ytooaeafnneikkaa", sum := "682c1a679f597ffceca2133e1bc4cdbdf3edc3b8c5610194f987964d92f5a948", func := "loop.example/g01368/laws.FnExactEndsAt", spec := "fnExactEndsAt", unfollowed := true, recurses := true, leaving := true, apart := false }
def FnExactEndsAtSaid : Prop := fnExactEndsAtRow.holds Try.pinned (OpenSpec.ofChange fnExactEndsAtSpec)

/-- ITS FALSE NEIGHBOUR: 'it returns false'. Refute it at one input. -/
def fnExactEndsAtWrong : ChangeSpec := { name := "fnExactEndsAt", fn := fun _ => fun
  | [d1, d2, d3] => { results := [.lit (.bool false)], args := [d1, d2, d3] }
  | _ => none }
def FnExactEndsAtWrongFalsely : Prop := fnExactEndsAtRow.holds Try.pinned (OpenSpec.ofChange fnExactEndsAtWrong)

/-- 'laws.FnExactCountPlaysTo': WHATEVER THE INPUT: true; the input reads as it did. -/
def fnExactCountPlaysToSpec : ChangeSpec := { name := "fnExactCountPlaysTo", fn := fun _ => fun
  | [d1, d2, d3] => { results := [.lit (.bool true)], args := [d1, d2, d3] }
  | _ => none }
def fnExactCountPlaysToRow : OpenClaim := { program := "ytooaeafnneikkaa", sum := "682c1a679f597ffceca2133e1bc4cdbdf3edc3b8c5610194f987964d92f5a948", func := "loop.example/g01368/laws.FnExactCountPlaysTo", spec := "fnExactCountPlaysTo", unfollowed := true, recurses := true, leaving := true, apart := false }
def FnExactCountPlaysToSaid : Prop := fnExactCountPlaysToRow.holds Try.pinned (OpenSpec.ofChange fnExactCountPlaysToSpec)

/-- ITS FALSE NEIGHBOUR: 'it returns false'. Refute it at one input. -/
def fnExactCountPlaysToWrong : ChangeSpec := { name := "fnExactCountPlaysTo", fn := fun _ => fun
  | [d1, d2, d3] => { results := [.lit (.bool false)], args := [d1, d2, d3] }
  | _ => none }
def FnExactCountPlaysToWrongFalsely : Prop := fnExactCountPlaysToRow.holds Try.pinned (OpenSpec.ofChange fnExactCountPlaysToWrong)

/-- 'laws.FnExactCountEnded': WHATEVER THE INPUT: true; the input reads as it did. -/
def fnExactCountEndedSpec : ChangeSpec := { name := "fnExactCountEnded", fn := fun _ => fun
  | [d1, d2] => { results := [.lit (.bool true)], args := [d1, d2] }
  | _ => none }
def fnExactCountEndedRow : OpenClaim := { program := "ytooaeafnneikkaa", sum := "682c1a679f597ffceca2133e1bc4cdbdf3edc3b8c5610194f987964d92f5a948", func := "loop.example/g01368/laws.FnExactCountEnded", spec := "fnExactCountEnded", inPlace := ["(*internal/sync.Mutex).Lock", "internal/race.Disable", "sync/atomic.CompareAndSwapInt32", "internal/race.Enable", "internal/race.Acquire", "(*internal/sync.Mutex).lockSlow", "internal/sync.runtime_canSpin", "internal/sync.runtime_doSpin", "internal/sync.throw", "internal/sync.runtime_nanotime", "internal/sync.runtime_SemacquireMutex", "sync/atomic.AddInt32", "(*internal/sync.Mutex).Unlock", "internal/race.ReleaseMerge", "(*internal/sync.Mutex).unlockSlow", "internal/sync.fatal", "internal/sync.runtime_Semrelease", "(*sync.WaitGroup).Go", "(*sync.WaitGroup).Add", "internal/synctest.IsInBubble", "internal/synctest.Associate[sync.WaitGroup]", "sync.fatal", "sync/atomic.OrUint64", "sync/atomic.AddUint64", "internal/race.Read", "sync/atomic.LoadUint64", "sync/atomic.StoreUint64", "internal/synctest.Disassociate[sync.WaitGroup]", "sync.runtime_Semrelease", "(*sync.WaitGroup).Go$1", "(*sync.WaitGroup).Go$1$1", "(*sync.WaitGroup).Done", "(*sync.WaitGroup).Wait", "internal/synctest.IsAssociated[sync.WaitGroup]", "sync/atomic.CompareAndSwapUint64", "internal/race.Write", "sync.runtime_SemacquireWaitGroup"], unfollowed := true, recurses := true, leaving := true, apart := false, calm := true, outside := [.timePasses] }
def FnExactCountEndedSaid : Prop := fnExactCountEndedRow.holds Try.pinned (OpenSpec.ofChange fnExactCountEndedSpec)

/-- ITS FALSE NEIGHBOUR: 'it returns false'. Refute it at one input. -/
def fnExactCountEndedWrong : ChangeSpec := { name := "fnExactCountEnded", fn := fun _ => fun
  | [d1, d2] => { results := [.lit (.bool false)], args := [d1, d2] }
  | _ => none }
def FnExactCountEndedWrongFalsely : Prop := fnExactCountEndedRow.holds Try.pinned (OpenSpec.ofChange fnExactCountEndedWrong)

/-- 'laws.FnExactCountOpenPlays': WHATEVER THE INPUT: true; the input reads as it did. -/
def fnExactCountOpenPlaysSpec : ChangeSpec := { name := "fnExactCountOpenPlays", fn := fun _ => fun
  | [d1, d2] => { results := [.lit (.bool true)], args := [d1, d2] }
  | _ => none }
def fnExactCountOpenPlaysRow : OpenClaim := { program := "ytooaeafnneikkaa", sum := "682c1a679f597ffceca2133e1bc4cdbdf3edc3b8c5610194f987964d92f5a948", func := "loop.example/g01368/laws.FnExactCountOpenPlays", spec := "fnExactCountOpenPlays", inPlace := ["(*internal/sync.Mutex).Lock", "internal/race.Disable", "sync/atomic.CompareAndSwapInt32", "internal/race.Enable", "internal/race.Acquire", "(*internal/sync.Mutex).lockSlow", "internal/sync.runtime_canSpin", "internal/sync.runtime_doSpin", "internal/sync.throw", "internal/sync.runtime_nanotime", "internal/sync.runtime_SemacquireMutex", "sync/atomic.AddInt32", "(*internal/sync.Mutex).Unlock", "internal/race.ReleaseMerge", "(*internal/sync.Mutex).unlockSlow", "internal/sync.fatal", "internal/sync.runtime_Semrelease", "(*sync.WaitGroup).Go", "(*sync.WaitGroup).Add", "internal/synctest.IsInBubble", "internal/synctest.Associate[sync.WaitGroup]", "sync.fatal", "sync/atomic.OrUint64", "sync/atomic.AddUint64", "internal/race.Read", "sync/atomic.LoadUint64", "sync/atomic.StoreUint64", "internal/synctest.Disassociate[sync.WaitGroup]", "sync.runtime_Semrelease", "(*sync.WaitGroup).Go$1", "(*sync.WaitGroup).Go$1$1", "(*sync.WaitGroup).Done", "(*sync.WaitGroup).Wait", "internal/synctest.IsAssociated[sync.WaitGroup]", "sync/atomic.CompareAndSwapUint64", "internal/race.Write", "sync.runtime_SemacquireWaitGroup"], unfollowed := true, recurses := true, leaving := true, apart := false, calm := true, outside := [.timePasses] }
def FnExactCountOpenPlaysSaid : Prop := fnExactCountOpenPlaysRow.holds Try.pinned (OpenSpec.ofChange fnExactCountOpenPlaysSpec)

/-- ITS FALSE NEIGHBOUR: 'it returns false'. Refute it at one input. -/
def fnExactCountOpenPlaysWrong : ChangeSpec := { name := "fnExactCountOpenPlays", fn := fun _ => fun
  | [d1, d2] => { results := [.lit (.bool false)], args := [d1, d2] }
  | _ => none }
def FnExactCountOpenPlaysWrongFalsely : Prop := fnExactCountOpenPlaysRow.holds Try.pinned (OpenSpec.ofChange fnExactCountOpenPlaysWrong)

/-- 'laws.FnExactFirstPlayTo': WHATEVER THE INPUT: true; the input reads as it did. -/
def fnExactFirstPlayToSpec : ChangeSpec := { name := "fnExactFirstPlayTo", fn := fun _ => fun
  | [d1, d2, d3] => { results := [.lit (.bool true)], args := [d1, d2, d3] }
  | _ => none }
def fnExactFirstPlayToRow : OpenClaim := { program := "ytooaeafnneikkaa", sum := "682c1a679f597ffceca2133e1bc4cdbdf3edc3b8c5610194f987964d92f5a948", func := "loop.example/g01368/laws.FnExactFirstPlayTo", spec := "fnExactFirstPlayTo", unfollowed := true, recurses := true, leaving := true, apart := false }
def FnExactFirstPlayToSaid : Prop := fnExactFirstPlayToRow.holds Try.pinned (OpenSpec.ofChange fnExactFirstPlayToSpec)

/-- ITS FALSE NEIGHBOUR: 'it returns false'. Refute it at one input. -/
def fnExactFirstPlayToWrong : ChangeSpec := { name := "fnExactFirstPlayTo", fn := fun _ => fun
  | [d1, d2, d3] => { results := [.lit (.bool false)], args := [d1, d2, d3] }
  | _ => none }
def FnExactFirstPlayToWrongFalsely : Prop := fnExactFirstPlayToRow.holds Try.pinned (OpenSpec.ofChange fnExactFirstPlayToWrong)

/-- 'laws.FnExactPlayOfRank': WHATEVER THE INPUT: true; the input reads as it did. -/
def fnExactPlayOfRankSpec : ChangeSpec := { name := "fnExactPlayOfRank", fn := fun _ => fun
  | [d1, d2, d3, d4] => { results := [.lit (.bool true)], args := [d1, d2, d3, d4] }
  | _ => none }
def fnExactPlayOfRankRow : OpenClaim := { program := "ytooaeafnneikkaa", sum := "682c1a679f597ffceca2133e1bc4cdbdf3edc3b8c5610194f987964d92f5a948", func := "loop.example/g01368/laws.FnExactPlayOfRank", spec := "fnExactPlayOfRank", unfollowed := true, recurses := true, leaving := true, apart := false }
def FnExactPlayOfRankSaid : Prop := fnExactPlayOfRankRow.holds Try.pinned (OpenSpec.ofChange fnExactPlayOfRankSpec)

/-- ITS FALSE NEIGHBOUR: 'it returns false'. Refute it at one input. -/
def fnExactPlayOfRankWrong : ChangeSpec := { name := "fnExactPlayOfRank", fn := fun _ => fun
  | [d1, d2, d3, d4] => { results := [.lit (.bool false)], args := [d1, d2, d3, d4] }
  | _ => none }
def FnExactPlayOfRankWrongFalsely : Prop := fnExactPlayOfRankRow.holds Try.pinned (OpenSpec.ofChange fnExactPlayOfRankWrong)

/-- 'laws.FnExactLongestRun': WHATEVER THE INPUT: true; the input reads as it did. -/
def fnExactLongestRunSpec : ChangeSpec := { name := "fnExactLongestRun", fn := fun _ => fun
  | [d] => { results := [.lit (.bool true)], args := [d] }
  | _ => none }
def fnExactLongestRunRow : OpenClaim := { program := "ytooaeafnneikkaa", sum := "682c1a679f597ffceca2133e1bc4cdbdf3edc3b8c5610194f987964d92f5a948", func := "loop.example/g01368/laws.FnExactLongestRun", spec := "fnExactLongestRun", inPlace := ["internal/bytealg.CountString", "internal/bytealg.IndexByteString", "internal/bytealg.IndexString"], named := ["internal/bytealg.MaxLen"], apart := false }
def FnExactLongestRunSaid : Prop := fnExactLongestRunRow.holds Try.pinned (OpenSpec.ofChange fnExactLongestRunSpec)

/-- ITS FALSE NEIGHBOUR: 'it returns false'. Refute it at one input. -/
def fnExactLongestRunWrong : ChangeSpec := { name := "fnExactLongestRun", fn := fun _ => fun
  | [d] => { results := [.lit (.bool false)], args := [d] }
  | _ => none }
def FnExactLongestRunWrongFalsely : Prop := fnExactLongestRunRow.holds Try.pinned (OpenSpec.ofChange fnExactLongestRunWrong)

/-- 'laws.FnExactServersOf': WHATEVER THE INPUT: true; the input reads as it did. -/
def fnExactServersOfSpec : ChangeSpec := { name := "fnExactServersOf", fn := fun _ => fun
  | [d1, d2] => { results := [.lit (.bool true)], args := [d1, d2] }
  | _ => none }
def fnExactServersOfRow : OpenClaim := { program := "ytooaeafnneikkaa", sum := "682c1a679f597ffceca2133e1bc4cdbdf3edc3b8c5610194f987964d92f5a948", func := "loop.example/g01368/laws.FnExactServersOf", spec := "fnExactServersOf", inPlace := ["internal/bytealg.CountString", "internal/bytealg.IndexByteString", "internal/bytealg.IndexString"], named := ["internal/bytealg.MaxLen"], apart := false }
def FnExactServersOfSaid : Prop := fnExactServersOfRow.holds Try.pinned (OpenSpec.ofChange fnExactServersOfSpec)

/-- ITS FALSE NEIGHBOUR: 'it returns false'. Refute it at one input. -/
def fnExactServersOfWrong : ChangeSpec := { name := "fnExactServersOf", fn := fun _ => fun
  | [d1, d2] => { results := [.lit (.bool false)], args := [d1, d2] }
  | _ => none }
def FnExactServersOfWrongFalsely : Prop := fnExactServersOfRow.holds Try.pinned (OpenSpec.ofChange fnExactServersOfWrong)

/-- 'laws.FnExactPointsOnServe': WHATEVER THE INPUT: true; the input reads as it did. -/
def fnExactPointsOnServeSpec : ChangeSpec := { name := "fnExactPointsOnServe", fn := fun _ => fun
  | [d1, d2] => { results := [.lit (.bool true)], args := [d1, d2] }
  | _ => none }
def fnExactPointsOnServeRow : OpenClaim := { program := "ytooaeafnneikkaa", sum := "682c1a679f597ffceca2133e1bc4cdbdf3edc3b8c5610194f987964d92f5a948", func := "loop.example/g01368/laws.FnExactPointsOnServe", spec := "fnExactPointsOnServe", inPlace := ["internal/bytealg.CountString", "internal/bytealg.IndexByteString", "internal/bytealg.IndexString"], named := ["internal/bytealg.MaxLen"], apart := false }
def FnExactPointsOnServeSaid : Prop := fnExactPointsOnServeRow.holds Try.pinned (OpenSpec.ofChange fnExactPointsOnServeSpec)

/-- ITS FALSE NEIGHBOUR: 'it returns false'. Refute it at one input. -/
def fnExactPointsOnServeWrong : ChangeSpec := { name := "fnExactPointsOnServe", fn := fun _ => fun
  | [d1, d2] => { results := [.lit (.bool false)], args := [d1, d2] }
  | _ => none }
def FnExactPointsOnServeWrongFalsely : Prop := fnExactPointsOnServeRow.holds Try.pinned (OpenSpec.ofChange fnExactPointsOnServeWrong)

/- THE SECOND FORM. 'bulk': how many values and letters a reading holds, each counted each time it is reached (what is shared counts as often as it is met; a slice's spare places count too). A statement '..UptoSaid' is the law's where the arguments, and the package variables that the reading takes, are together of bulk at most 1048576: NARROWER than '..Said'. Prove '..Said' where nothing that the law and all that it calls make is longer than what came in: it says more and counts as full. Else prove '..UptoSaid'. A law counts once. -/
mutual
def uptoBulk {H : Type} : DataW H → Nat
  | .lit (.string bytes) => bytes.length + 1
  | .lit _ => 1
  | .nil => 1
  | .ptr d => uptoBulk d + 1
  | .slice elems spare => uptoBulkAll elems + uptoBulkAll spare + 1
  | .agg parts => uptoBulkAll parts + 1
  | .iface _ d => uptoBulk d + 1
  | .map entries => uptoBulkEntries entries + 1
  | .held _ => 1
def uptoBulkAll {H : Type} : List (DataW H) → Nat
  | [] => 0
  | d :: r => uptoBulk d + uptoBulkAll r
def uptoBulkEntries {H : Type} : List (Lit × DataW H) → Nat
  | [] => 0
  | x :: r => uptoBulkEntry x + uptoBulkEntries r
def uptoBulkEntry {H : Type} : Lit × DataW H → Nat
  | (.string bytes, d) => bytes.length + uptoBulk d + 1
  | (_, d) => uptoBulk d + 1
 end
def uptoSmall : (H : Type) → List (DataW H) → Bool := fun _ ds => decide (uptoBulkAll ds ≤ 1048576)
def OpenSpec.upto (s : _root_.Go.ChangeSpec) : _root_.Go.OpenSpec := { _root_.Go.OpenSpec.ofChange s with cond := some uptoSmall }

/-- 'laws.FnExactIsRace', WHERE WHAT IT READS IS OF BULK AT MOST 1048576: true; the input reads as it did. -/
def fnExactIsRaceUptoRow : OpenClaim := { program := "ytooaeafnneikkaa", sum := "682c1a679f597ffceca2133e1bc4cdbdf3edc3b8c5610194f987964d92f5a948", func := "loop.example/g01368/laws.FnExactIsRace", spec := "fnExactIsRace", apart := false, narrowed := true }
def FnExactIsRaceUptoSaid : Prop := fnExactIsRaceUptoRow.holds Try.pinned (OpenSpec.upto fnExactIsRaceSpec)

/-- 'laws.FnExactEndsAt', WHERE WHAT IT READS IS OF BULK AT MOST 1048576: true; the input reads as it did. -/
def fnExactEndsAtUptoRow : OpenClaim := { program := "ytooaeafnneikkaa", sum := "682c1a679f597ffceca2133e1bc4cdbdf3edc3b8c5610194f987964d92f5a948", func := "loop.example/g01368/laws.FnExactEndsAt", spec := "fnExactEndsAt", unfollowed := true, recurses := true, leaving := true, apart := false, narrowed := true }
def FnExactEndsAtUptoSaid : Prop := fnExactEndsAtUptoRow.holds Try.pinned (OpenSpec.upto fnExactEndsAtSpec)

/-- 'laws.FnExactCountPlaysTo', WHERE WHAT IT READS IS OF BULK AT MOST 1048576: true; the input reads as it did. -/
def fnExactCountPlaysToUptoRow : OpenClaim := { program := "ytooaeafnneikkaa", sum := "682c1a679f597ffceca2133e1bc4cdbdf3edc3b8c5610194f987964d92f5a948", func := "loop.example/g01368/laws.FnExactCountPlaysTo", spec := "fnExactCountPlaysTo", unfollowed := true, recurses := true, leaving := true, apart := false, narrowed := true }
def FnExactCountPlaysToUptoSaid : Prop := fnExactCountPlaysToUptoRow.holds Try.pinned (OpenSpec.upto fnExactCountPlaysToSpec)

/-- 'laws.FnExactCountEnded', WHERE WHAT IT READS IS OF BULK AT MOST 1048576: true; the input reads as it did. -/
def fnExactCountEndedUptoRow : OpenClaim := { program := "ytooaeafnneikkaa", sum := "682c1a679f597ffceca2133e1bc4cdbdf3edc3b8c5610194f987964d92f5a948", func := "loop.example/g01368/laws.FnExactCountEnded", spec := "fnExactCountEnded", inPlace := ["(*internal/sync.Mutex).Lock", "internal/race.Disable", "sync/atomic.CompareAndSwapInt32", "internal/race.Enable", "internal/race.Acquire", "(*internal/sync.Mutex).lockSlow", "internal/sync.runtime_canSpin", "internal/sync.runtime_doSpin", "internal/sync.throw", "internal/sync.runtime_nanotime", "internal/sync.runtime_SemacquireMutex", "sync/atomic.AddInt32", "(*internal/sync.Mutex).Unlock", "internal/race.ReleaseMerge", "(*internal/sync.Mutex).unlockSlow", "internal/sync.fatal", "internal/sync.runtime_Semrelease", "(*sync.WaitGroup).Go", "(*sync.WaitGroup).Add", "internal/synctest.IsInBubble", "internal/synctest.Associate[sync.WaitGroup]", "sync.fatal", "sync/atomic.OrUint64", "sync/atomic.AddUint64", "internal/race.Read", "sync/atomic.LoadUint64", "sync/atomic.StoreUint64", "internal/synctest.Disassociate[sync.WaitGroup]", "sync.runtime_Semrelease", "(*sync.WaitGroup).Go$1", "(*sync.WaitGroup).Go$1$1", "(*sync.WaitGroup).Done", "(*sync.WaitGroup).Wait", "internal/synctest.IsAssociated[sync.WaitGroup]", "sync/atomic.CompareAndSwapUint64", "internal/race.Write", "sync.runtime_SemacquireWaitGroup"], unfollowed := true, recurses := true, leaving := true, apart := false, calm := true, outside := [.timePasses], narrowed := true }
def FnExactCountEndedUptoSaid : Prop := fnExactCountEndedUptoRow.holds Try.pinned (OpenSpec.upto fnExactCountEndedSpec)

/-- 'laws.FnExactCountOpenPlays', WHERE WHAT IT READS IS OF BULK AT MOST 1048576: true; the input reads as it did. -/
def fnExactCountOpenPlaysUptoRow : OpenClaim := { program := "ytooaeafnneikkaa", sum := "682c1a679f597ffceca2133e1bc4cdbdf3edc3b8c5610194f987964d92f5a948", func := "loop.example/g01368/laws.FnExactCountOpenPlays", spec := "fnExactCountOpenPlays", inPlace := ["(*internal/sync.Mutex).Lock", "internal/race.Disable", "sync/atomic.CompareAndSwapInt32", "internal/race.Enable", "internal/race.Acquire", "(*internal/sync.Mutex).lockSlow", "internal/sync.runtime_canSpin", "internal/sync.runtime_doSpin", "internal/sync.throw", "internal/sync.runtime_nanotime", "internal/sync.runtime_SemacquireMutex", "sync/atomic.AddInt32", "(*internal/sync.Mutex).Unlock", "internal/race.ReleaseMerge", "(*internal/sync.Mutex).unlockSlow", "internal/sync.fatal", "internal/sync.runtime_Semrelease", "(*sync.WaitGroup).Go", "(*sync.WaitGroup).Add", "internal/synctest.IsInBubble", "internal/synctest.Associate[sync.WaitGroup]", "sync.fatal", "sync/atomic.OrUint64", "sync/atomic.AddUint64", "internal/race.Read", "sync/atomic.LoadUint64", "sync/atomic.StoreUint64", "internal/synctest.Disassociate[sync.WaitGroup]", "sync.runtime_Semrelease", "(*sync.WaitGroup).Go$1", "(*sync.WaitGroup).Go$1$1", "(*sync.WaitGroup).Done", "(*sync.WaitGroup).Wait", "internal/synctest.IsAssociated[sync.WaitGroup]", "sync/atomic.CompareAndSwapUint64", "internal/race.Write", "sync.runtime_SemacquireWaitGroup"], unfollowed := true, recurses := true, leaving := true, apart := false, calm := true, outside := [.timePasses], narrowed := true }
def FnExactCountOpenPlaysUptoSaid : Prop := fnExactCountOpenPlaysUptoRow.holds Try.pinned (OpenSpec.upto fnExactCountOpenPlaysSpec)

/-- 'laws.FnExactFirstPlayTo', WHERE WHAT IT READS IS OF BULK AT MOST 1048576: true; the input reads as it did. -/
def fnExactFirstPlayToUptoRow : OpenClaim := { program := "ytooaeafnneikkaa", sum := "682c1a679f597ffceca2133e1bc4cdbdf3edc3b8c5610194f987964d92f5a948", func := "loop.example/g01368/laws.FnExactFirstPlayTo", spec := "fnExactFirstPlayTo", unfollowed := true, recurses := true, leaving := true, apart := false, narrowed := true }
def FnExactFirstPlayToUptoSaid : Prop := fnExactFirstPlayToUptoRow.holds Try.pinned (OpenSpec.upto fnExactFirstPlayToSpec)

/-- 'laws.FnExactPlayOfRank', WHERE WHAT IT READS IS OF BULK AT MOST 1048576: true; the input reads as it did. -/
def fnExactPlayOfRankUptoRow : OpenClaim := { program := "ytooaeafnneikkaa", sum := "682c1a679f597ffceca2133e1bc4cdbdf3edc3b8c5610194f987964d92f5a948", func := "loop.example/g01368/laws.FnExactPlayOfRank", spec := "fnExactPlayOfRank", unfollowed := true, recurses := true, leaving := true, apart := false, narrowed := true }
def FnExactPlayOfRankUptoSaid : Prop := fnExactPlayOfRankUptoRow.holds Try.pinned (OpenSpec.upto fnExactPlayOfRankSpec)

/-- 'laws.FnExactLongestRun', WHERE WHAT IT READS IS OF BULK AT MOST 1048576: true; the input reads as it did. -/
def fnExactLongestRunUptoRow : OpenClaim := { program := "ytooaeafnneikkaa", sum := "682c1a679f597ffceca2133e1bc4cdbdf3edc3b8c5610194f987964d92f5a948", func := "loop.example/g01368/laws.FnExactLongestRun", spec := "fnExactLongestRun", inPlace := ["internal/bytealg.CountString", "internal/bytealg.IndexByteString", "internal/bytealg.IndexString"], named := ["internal/bytealg.MaxLen"], apart := false, narrowed := true }
def FnExactLongestRunUptoSaid : Prop := fnExactLongestRunUptoRow.holds Try.pinned (OpenSpec.upto fnExactLongestRunSpec)

/-- 'laws.FnExactServersOf', WHERE WHAT IT READS IS OF BULK AT MOST 1048576: true; the input reads as it did. -/
def fnExactServersOfUptoRow : OpenClaim := { program := "ytooaeafnneikkaa", sum := "682c1a679f597ffceca2133e1bc4cdbdf3edc3b8c5610194f987964d92f5a948", func := "loop.example/g01368/laws.FnExactServersOf", spec := "fnExactServersOf", inPlace := ["internal/bytealg.CountString", "internal/bytealg.IndexByteString", "internal/bytealg.IndexString"], named := ["internal/bytealg.MaxLen"], apart := false, narrowed := true }
def FnExactServersOfUptoSaid : Prop := fnExactServersOfUptoRow.holds Try.pinned (OpenSpec.upto fnExactServersOfSpec)

/-- 'laws.FnExactPointsOnServe', WHERE WHAT IT READS IS OF BULK AT MOST 1048576: true; the input reads as it did. -/
def fnExactPointsOnServeUptoRow : OpenClaim := { program := "ytooaeafnneikkaa", sum := "682c1a679f597ffceca2133e1bc4cdbdf3edc3b8c5610194f987964d92f5a948", func := "loop.example/g01368/laws.FnExactPointsOnServe", spec := "fnExactPointsOnServe", inPlace := ["internal/bytealg.CountString", "internal/bytealg.IndexByteString", "internal/bytealg.IndexString"], named := ["internal/bytealg.MaxLen"], apart := false, narrowed := true }
def FnExactPointsOnServeUptoSaid : Prop := fnExactPointsOnServeUptoRow.holds Try.pinned (OpenSpec.upto fnExactPointsOnServeSpec)

end Rows
end Go.Proofs.Ytooaeafnneikkaa
