/-
  NARROWER THAN 'FOR EVERY INPUT', by the rows' own cells (each row's printed sentence says how): Shas: laid · Pieces: laid · Verifies: laid · Rooted: laid · Chained: laid.
  DERIVED. THE GIVEN ROWS OF THIS SEAT. 5 by the template 'for every input the law returns true; each argument reads behind the call as it read before'; 0 by the template 'total and deterministic' (their statements: YtkmoglhgkcnalaaDoorTotals.lean).
  GIVEN WITH THE SEED: the statements are not yours to turn. If you find one false, say at which input.
  Laid BY PROGRAM, IN A SANDBOX (cutbox-rows.mjs): the forced cells as the released guide's own fill.sh prints them over the translation 5edc62ca75ee5c3f… (all of the seat's roots in one cut). By AI agents, Wed Nov 11 2026. No macro, syntax, notation, axiom, sorry.
-/
import Derived.Test.YtkmoglhgkcnalaaDoorChecked
import GoSem.Claim
import GoSem.ClaimJoined
import GoSem.ClaimMapViews
import Derived.JoinedTies
import Derived.KernelRfl
namespace Go.Proofs.YtkmoglhgkcnalaaDoor
/- THE CELL 'sum', in the pinned program and in every row, IS THE sha256 OF THE DUMP (.gsa) THAT YtkmoglhgkcnalaaDoorProg.lean LOADS. Nothing in Lean hashes anything: it is a label: what it is worth is what the hold of that sum in a sandbox is worth. -/
noncomputable def Tryd.pinned : Pinned := { name := "ytkmoglhgkcnalaadoor", sum := "5edc62ca75ee5c3f62c97ee3bae9fbe4de5198a80e4d7b147345c5cd56b05c0c", checked := Tryd.checked }
namespace Rows
def none {H : Type} : Left H := { results := [], args := [] }

/- WHAT THE LISTED PACKAGE-LEVEL VARIABLES READ AS WHEN THE CALL BEGINS. Each datum BY PROGRAM (the guide's laid-datum.mjs) off the statement by which the dump's own 'gosem.cut.vars' lays the variable. In a bare row this is a premise. The card (YtkmoglhgkcnalaaDoorCards.lean) ties it to the program's text. -/
def laid_lintel_digest_roots {H : Type} : DataW H := .agg [.lit (.int .u32 1116352408), .lit (.int .u32 1899447441), .lit (.int .u32 3049323471), .lit (.int .u32 3921009573), .lit (.int .u32 961987163), .lit (.int .u32 1508970993), .lit (.int .u32 2453635748), .lit (.int .u32 2870763221), .lit (.int .u32 3624381080), .lit (.int .u32 310598401), .lit (.int .u32 607225278), .lit (.int .u32 1426881987), .lit (.int .u32 1925078388), .lit (.int .u32 2162078206), .lit (.int .u32 2614888103), .lit (.int .u32 3248222580), .lit (.int .u32 3835390401), .lit (.int .u32 4022224774), .lit (.int .u32 264347078), .lit (.int .u32 604807628), .lit (.int .u32 770255983), .lit (.int .u32 1249150122), .lit (.int .u32 1555081692), .lit (.int .u32 1996064986), .lit (.int .u32 2554220882), .lit (.int .u32 2821834349), .lit (.int .u32 2952996808), .lit (.int .u32 3210313671), .lit (.int .u32 3336571891), .lit (.int .u32 3584528711), .lit (.int .u32 113926993), .lit (.int .u32 338241895), .lit (.int .u32 666307205), .lit (.int .u32 773529912), .lit (.int .u32 1294757372), .lit (.int .u32 1396182291), .lit (.int .u32 1695183700), .lit (.int .u32 1986661051), .lit (.int .u32 2177026350), .lit (.int .u32 2456956037), .lit (.int .u32 2730485921), .lit (.int .u32 2820302411), .lit (.int .u32 3259730800), .lit (.int .u32 3345764771), .lit (.int .u32 3516065817), .lit (.int .u32 3600352804), .lit (.int .u32 4094571909), .lit (.int .u32 275423344), .lit (.int .u32 430227734), .lit (.int .u32 506948616), .lit (.int .u32 659060556), .lit (.int .u32 883997877), .lit (.int .u32 958139571), .lit (.int .u32 1322822218), .lit (.int .u32 1537002063), .lit (.int .u32 1747873779), .lit (.int .u32 1955562222), .lit (.int .u32 2024104815), .lit (.int .u32 2227730452), .lit (.int .u32 2361852424), .lit (.int .u32 2428436474), .lit (.int .u32 2756734187), .lit (.int .u32 3204031479), .lit (.int .u32 3329325298)]

/-- 'lintellaw.Shas': WHATEVER THE INPUT: true; the input reads as it did. -/
def shasSpec : ChangeSpec := { name := "shas", fn := fun _ => fun
  | [d] => { results := [.lit (.bool true)], args := [d] }
  | _ => none }
def shasRow : OpenClaim := { program := "ytkmoglhgkcnalaadoor", sum := "5edc62ca75ee5c3f62c97ee3bae9fbe4de5198a80e4d7b147345c5cd56b05c0c", func := "lintel/lintellaw.Shas", spec := "shas", inPlace := ["internal/abi.NoEscape", "internal/bytealg.MakeNoZero"], named := ["lintel/digest.roots"], apart := false, laid := [("lintel/digest.roots", laid_lintel_digest_roots)] }
def ShasSaid : Prop := shasRow.holds Tryd.pinned (OpenSpec.ofChange shasSpec)

/-- ITS FALSE NEIGHBOUR: 'it returns false'. Refute it at one input. -/
def shasWrong : ChangeSpec := { name := "shas", fn := fun _ => fun
  | [d] => { results := [.lit (.bool false)], args := [d] }
  | _ => none }
def ShasWrongFalsely : Prop := shasRow.holds Tryd.pinned (OpenSpec.ofChange shasWrong)

/-- 'lintellaw.Pieces': WHATEVER THE INPUT: true; the input reads as it did. -/
def piecesSpec : ChangeSpec := { name := "pieces", fn := fun _ => fun
  | [d1, d2] => { results := [.lit (.bool true)], args := [d1, d2] }
  | _ => none }
def piecesRow : OpenClaim := { program := "ytkmoglhgkcnalaadoor", sum := "5edc62ca75ee5c3f62c97ee3bae9fbe4de5198a80e4d7b147345c5cd56b05c0c", func := "lintel/lintellaw.Pieces", spec := "pieces", inPlace := ["internal/abi.NoEscape", "internal/bytealg.MakeNoZero"], named := ["lintel/digest.roots"], apart := false, laid := [("lintel/digest.roots", laid_lintel_digest_roots)] }
def PiecesSaid : Prop := piecesRow.holds Tryd.pinned (OpenSpec.ofChange piecesSpec)

/-- ITS FALSE NEIGHBOUR: 'it returns false'. Refute it at one input. -/
def piecesWrong : ChangeSpec := { name := "pieces", fn := fun _ => fun
  | [d1, d2] => { results := [.lit (.bool false)], args := [d1, d2] }
  | _ => none }
def PiecesWrongFalsely : Prop := piecesRow.holds Tryd.pinned (OpenSpec.ofChange piecesWrong)

/-- 'lintellaw.Verifies': WHATEVER THE INPUT: true; the input reads as it did. -/
def verifiesSpec : ChangeSpec := { name := "verifies", fn := fun _ => fun
  | [d1, d2, d3] => { results := [.lit (.bool true)], args := [d1, d2, d3] }
  | _ => none }
def verifiesRow : OpenClaim := { program := "ytkmoglhgkcnalaadoor", sum := "5edc62ca75ee5c3f62c97ee3bae9fbe4de5198a80e4d7b147345c5cd56b05c0c", func := "lintel/lintellaw.Verifies", spec := "verifies", inPlace := ["internal/abi.NoEscape", "internal/bytealg.MakeNoZero", "(*sync.WaitGroup).Add", "internal/race.ReleaseMerge", "internal/race.Disable", "internal/race.Enable", "internal/synctest.IsInBubble", "internal/synctest.Associate[sync.WaitGroup]", "sync.fatal", "sync/atomic.OrUint64", "sync/atomic.AddUint64", "internal/race.Read", "sync/atomic.LoadUint64", "sync/atomic.StoreUint64", "internal/synctest.Disassociate[sync.WaitGroup]", "sync.runtime_Semrelease", "(*sync.WaitGroup).Done", "(*sync.WaitGroup).Wait", "internal/race.Acquire", "internal/synctest.IsAssociated[sync.WaitGroup]", "sync/atomic.CompareAndSwapUint64", "internal/race.Write", "sync.runtime_SemacquireWaitGroup"], unfollowed := true, recurses := true, named := ["lintel/digest.roots"], leaving := true, apart := false, laid := [("lintel/digest.roots", laid_lintel_digest_roots)] }
def VerifiesSaid : Prop := verifiesRow.holds Tryd.pinned (OpenSpec.ofChange verifiesSpec)

/-- ITS FALSE NEIGHBOUR: 'it returns false'. Refute it at one input. -/
def verifiesWrong : ChangeSpec := { name := "verifies", fn := fun _ => fun
  | [d1, d2, d3] => { results := [.lit (.bool false)], args := [d1, d2, d3] }
  | _ => none }
def VerifiesWrongFalsely : Prop := verifiesRow.holds Tryd.pinned (OpenSpec.ofChange verifiesWrong)

/-- 'lintellaw.Rooted': WHATEVER THE INPUT: true; the input reads as it did. -/
def rootedSpec : ChangeSpec := { name := "rooted", fn := fun _ => fun
  | [d1, d2, d3, d4, d5, d6, d7, d8] => { results := [.lit (.bool true)], args := [d1, d2, d3, d4, d5, d6, d7, d8] }
  | _ => none }
def rootedRow : OpenClaim := { program := "ytkmoglhgkcnalaadoor", sum := "5edc62ca75ee5c3f62c97ee3bae9fbe4de5198a80e4d7b147345c5cd56b05c0c", func := "lintel/lintellaw.Rooted", spec := "rooted", inPlace := ["internal/abi.NoEscape", "internal/bytealg.MakeNoZero", "(*sync.WaitGroup).Add", "internal/race.ReleaseMerge", "internal/race.Disable", "internal/race.Enable", "internal/synctest.IsInBubble", "internal/synctest.Associate[sync.WaitGroup]", "sync.fatal", "sync/atomic.OrUint64", "sync/atomic.AddUint64", "internal/race.Read", "sync/atomic.LoadUint64", "sync/atomic.StoreUint64", "internal/synctest.Disassociate[sync.WaitGroup]", "sync.runtime_Semrelease", "(*sync.WaitGroup).Done", "(*sync.WaitGroup).Wait", "internal/race.Acquire", "internal/synctest.IsAssociated[sync.WaitGroup]", "sync/atomic.CompareAndSwapUint64", "internal/race.Write", "sync.runtime_SemacquireWaitGroup"], unfollowed := true, recurses := true, named := ["lintel/digest.roots"], leaving := true, apart := false, laid := [("lintel/digest.roots", laid_lintel_digest_roots)] }
def RootedSaid : Prop := rootedRow.holds Tryd.pinned (OpenSpec.ofChange rootedSpec)

/-- ITS FALSE NEIGHBOUR: 'it returns false'. Refute it at one input. -/
def rootedWrong : ChangeSpec := { name := "rooted", fn := fun _ => fun
  | [d1, d2, d3, d4, d5, d6, d7, d8] => { results := [.lit (.bool false)], args := [d1, d2, d3, d4, d5, d6, d7, d8] }
  | _ => none }
def RootedWrongFalsely : Prop := rootedRow.holds Tryd.pinned (OpenSpec.ofChange rootedWrong)

/-- 'lintelkeep.Chained': WHATEVER THE INPUT: true; the input reads as it did. -/
def chainedSpec : ChangeSpec := { name := "chained", fn := fun _ => fun
  | [d1, d2] => { results := [.lit (.bool true)], args := [d1, d2] }
  | _ => none }
def chainedRow : OpenClaim := { program := "ytkmoglhgkcnalaadoor", sum := "5edc62ca75ee5c3f62c97ee3bae9fbe4de5198a80e4d7b147345c5cd56b05c0c", func := "lintel/lintelkeep.Chained", spec := "chained", inPlace := ["internal/abi.NoEscape", "internal/bytealg.MakeNoZero"], named := ["lintel/digest.roots"], apart := false, laid := [("lintel/digest.roots", laid_lintel_digest_roots)] }
def ChainedSaid : Prop := chainedRow.holds Tryd.pinned (OpenSpec.ofChange chainedSpec)

/-- ITS FALSE NEIGHBOUR: 'it returns false'. Refute it at one input. -/
def chainedWrong : ChangeSpec := { name := "chained", fn := fun _ => fun
  | [d1, d2] => { results := [.lit (.bool false)], args := [d1, d2] }
  | _ => none }
def ChainedWrongFalsely : Prop := chainedRow.holds Tryd.pinned (OpenSpec.ofChange chainedWrong)

/- THE SECOND FORM. 'bulk': how many values and letters a reading holds, each counted each time it is reached (what is shared counts as often as it is met; a slice's spare places count too). A statement '..UptoSaid' is the law's where the arguments, and the package variables that the reading takes, are together of bulk at most 1048576: NARROWER than '..Said'. Prove '..Said' where nothing that the law and all that it calls make is longer than what came in: it says more and counts as full. Else prove '..UptoSaid'. A law counts once. -/
mutual
def uptoBulk {H : Type} : DataW H → Nat
  | .lit (.string bytes) => bytes.length + 1
  | .lit _ => 1
  | .nil => 1
  | .ptr d => uptoBulk d + 1
  | .slice elems spare => uptoBulkAll elems + uptoBulkAll spare + 1
  | .agg parts => uptoBulkAll parts + 1
  | .iface _ d => uptoBulk d + 1
  | .map entries => uptoBulkEntries entries + 1
  | .held _ => 1
def uptoBulkAll {H : Type} : List (DataW H) → Nat
  | [] => 0
  | d :: r => uptoBulk d + uptoBulkAll r
def uptoBulkEntries {H : Type} : List (Lit × DataW H) → Nat
  | [] => 0
  | x :: r => uptoBulkEntry x + uptoBulkEntries r
def uptoBulkEntry {H : Type} : Lit × DataW H → Nat
  | (.string bytes, d) => bytes.length + uptoBulk d + 1
  | (_, d) => uptoBulk d + 1
 end
def uptoSmall : (H : Type) → List (DataW H) → Bool := fun _ ds => decide (uptoBulkAll ds ≤ 1048576)
def OpenSpec.upto (s : _root_.Go.ChangeSpec) : _root_.Go.OpenSpec := { _root_.Go.OpenSpec.ofChange s with cond := some uptoSmall }

/-- 'lintellaw.Shas', WHERE WHAT IT READS IS OF BULK AT MOST 1048576: true; the input reads as it did. -/
def shasUptoRow : OpenClaim := { program := "ytkmoglhgkcnalaadoor", sum := "5edc62ca75ee5c3f62c97ee3bae9fbe4de5198a80e4d7b147345c5cd56b05c0c", func := "lintel/lintellaw.Shas", spec := "shas", inPlace := ["internal/abi.NoEscape", "internal/bytealg.MakeNoZero"], named := ["lintel/digest.roots"], apart := false, laid := [("lintel/digest.roots", laid_lintel_digest_roots)], narrowed := true }
def ShasUptoSaid : Prop := shasUptoRow.holds Tryd.pinned (OpenSpec.upto shasSpec)

/-- 'lintellaw.Pieces', WHERE WHAT IT READS IS OF BULK AT MOST 1048576: true; the input reads as it did. -/
def piecesUptoRow : OpenClaim := { program := "ytkmoglhgkcnalaadoor", sum := "5edc62ca75ee5c3f62c97ee3bae9fbe4de5198a80e4d7b147345c5cd56b05c0c", func := "lintel/lintellaw.Pieces", spec := "pieces", inPlace := ["internal/abi.NoEscape", "internal/bytealg.MakeNoZero"], named := ["lintel/digest.roots"], apart := false, laid := [("lintel/digest.roots", laid_lintel_digest_roots)], narrowed := true }
def PiecesUptoSaid : Prop := piecesUptoRow.holds Tryd.pinned (OpenSpec.upto piecesSpec)

/-- 'lintellaw.Verifies', WHERE WHAT IT READS IS OF BULK AT MOST 1048576: true; the input reads as it did. -/
def verifiesUptoRow : OpenClaim := { program := "ytkmoglhgkcnalaadoor", sum := "5edc62ca75ee5c3f62c97ee3bae9fbe4de5198a80e4d7b147345c5cd56b05c0c", func := "lintel/lintellaw.Verifies", spec := "verifies", inPlace := ["internal/abi.NoEscape", "internal/bytealg.MakeNoZero", "(*sync.WaitGroup).Add", "internal/race.ReleaseMerge", "internal/race.Disable", "internal/race.Enable", "internal/synctest.IsInBubble", "internal/synctest.Associate[sync.WaitGroup]", "sync.fatal", "sync/atomic.OrUint64", "sync/atomic.AddUint64", "internal/race.Read", "sync/atomic.LoadUint64", "sync/atomic.StoreUint64", "internal/synctest.Disassociate[sync.WaitGroup]", "sync.runtime_Semrelease", "(*sync.WaitGroup).Done", "(*sync.WaitGroup).Wait", "internal/race.Acquire", "internal/synctest.IsAssociated[sync.WaitGroup]", "sync/atomic.CompareAndSwapUint64", "internal/race.Write", "sync.runtime_SemacquireWaitGroup"], unfollowed := true, recurses := true, named := ["lintel/digest.roots"], leaving := true, apart := false, laid := [("lintel/digest.roots", laid_lintel_digest_roots)], narrowed := true }
def VerifiesUptoSaid : Prop := verifiesUptoRow.holds Tryd.pinned (OpenSpec.upto verifiesSpec)

/-- 'lintellaw.Rooted', WHERE WHAT IT READS IS OF BULK AT MOST 1048576: true; the input reads as it did. -/
def rootedUptoRow : OpenClaim := { program := "ytkmoglhgkcnalaadoor", sum := "5edc62ca75ee5c3f62c97ee3bae9fbe4de5198a80e4d7b147345c5cd56b05c0c", func := "lintel/lintellaw.Rooted", spec := "rooted", inPlace := ["internal/abi.NoEscape", "internal/bytealg.MakeNoZero", "(*sync.WaitGroup).Add", "internal/race.ReleaseMerge", "internal/race.Disable", "internal/race.Enable", "internal/synctest.IsInBubble", "internal/synctest.Associate[sync.WaitGroup]", "sync.fatal", "sync/atomic.OrUint64", "sync/atomic.AddUint64", "internal/race.Read", "sync/atomic.LoadUint64", "sync/atomic.StoreUint64", "internal/synctest.Disassociate[sync.WaitGroup]", "sync.runtime_Semrelease", "(*sync.WaitGroup).Done", "(*sync.WaitGroup).Wait", "internal/race.Acquire", "internal/synctest.IsAssociated[sync.WaitGroup]", "sync/atomic.CompareAndSwapUint64", "internal/race.Write", "sync.runtime_SemacquireWaitGroup"], unfollowed := true, recurses := true, named := ["lintel/digest.roots"], leaving := true, apart := false, laid := [("lintel/digest.roots", laid_lintel_digest_roots)], narrowed := true }
def RootedUptoSaid : Prop := rootedUptoRow.holds Tryd.pinned (OpenSpec.upto rootedSpec)

/-- 'lintelkeep.Chained', WHERE WHAT IT READS IS OF BULK AT MOST 1048576: true; the input reads as it did. -/
def chainedUptoRow : OpenClaim := { program := "ytkmoglhgkcnalaadoor", sum := "5edc62ca75ee5c3f62c97ee3bae9fbe4de5198a80e4d7b147345c5cd56b05c0c", func := "lintel/lintelkeep.Chained", spec := "chained", inPlace := ["internal/abi.NoEscape", "internal/bytealg.MakeNoZero"], named := ["lintel/digest.roots"], apart := false, laid := [("lintel/digest.roots", laid_lintel_digest_roots)], narrowed := true }
def ChainedUptoSaid : Prop := chainedUptoRow.holds Tryd.pinned (OpenSpec.upto chainedSpec)

end Rows
end Go.Proofs.YtkmoglhgkcnalaaDoor
