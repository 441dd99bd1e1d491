/-
  NARROWER THAN 'FOR EVERY INPUT', by the rows' own cells (each row's printed sentence says how): FnExactIsLine: laid · FnExactTrainsOn: laid · FnExactSignalsOf: laid · FnExactTickLine: laid · FnExactLineAfter: laid · FnExactMovesIn: laid · FnExactWaitsIn: laid · FnExactGapsOfLine: laid · FnExactPeriodOfLine: laid · FnExactSpeedOf: laid · FnExactFirstFree: laid · FnExactIsStuck: laid · FnExactHoleLine: laid · FnExactSpinLine: laid · FnExactCountLinesWith: laid.
  DERIVED. THE GIVEN ROWS OF THIS SEAT. 15 by the template 'for every input the law returns true; each argument reads behind the call as it read before'; 0 by the template 'total and deterministic' (their statements: YtogimjbjdgccnaaDoorTotals.lean).
  GIVEN WITH THE SEED: the statements are not yours to turn. If you find one false, say at which input.
  Laid BY PROGRAM, IN A SANDBOX (cutbox-rows.mjs): the forced cells as the released guide's own fill.sh prints them over the translation 44cf338d0afa32ac… (all of the seat's roots in one cut). By AI agents, Wed Nov 11 2026. No macro, syntax, notation, axiom, sorry.
-/
import Derived.Test.YtogimjbjdgccnaaDoorChecked
import GoSem.PinnedTables
import GoSem.Claim
import GoSem.ClaimJoined
import GoSem.ClaimMapViews
import Derived.JoinedTies
import Derived.KernelRfl
namespace Go.Proofs.YtogimjbjdgccnaaDoor
/- THE CELL 'sum', in the pinned program and in every row, IS THE sha256 OF THE DUMP (.gsa) THAT YtogimjbjdgccnaaDoorProg.lean LOADS. Nothing in Lean hashes anything: it is a label: what it is worth is what the hold of that sum in a sandbox is worth. -/
noncomputable def Tryd.pinned : Pinned := { name := "ytogimjbjdgccnaadoor", sum := "44cf338d0afa32ac384ba99f68f353bba06a263f0f6b505a6faa8cef6ff091b1", checked := Tryd.checked }
namespace Rows
def none {H : Type} : Left H := { results := [], args := [] }

/- WHAT THE LISTED PACKAGE-LEVEL VARIABLES READ AS WHEN THE CALL BEGINS. Each datum BY PROGRAM (the guide's laid-datum.mjs) off the statement by which the dump's own 'gosem.cut.vars' lays the variable. In a bare row this is a premise. The card (YtogimjbjdgccnaaDoorCards.lean) ties it to the program's text. -/
def laid_unicode_utf8_acceptRanges {H : Type} : DataW H := .agg [.agg [.lit (.int .u8 128), .lit (.int .u8 191)], .agg [.lit (.int .u8 160), .lit (.int .u8 191)], .agg [.lit (.int .u8 128), .lit (.int .u8 159)], .agg [.lit (.int .u8 144), .lit (.int .u8 191)], .agg [.lit (.int .u8 128), .lit (.int .u8 143)], .agg [.lit (.int .u8 0), .lit (.int .u8 0)], .agg [.lit (.int .u8 0), .lit (.int .u8 0)], .agg [.lit (.int .u8 0), .lit (.int .u8 0)], .agg [.lit (.int .u8 0), .lit (.int .u8 0)], .agg [.lit (.int .u8 0), .lit (.int .u8 0)], .agg [.lit (.int .u8 0), .lit (.int .u8 0)], .agg [.lit (.int .u8 0), .lit (.int .u8 0)], .agg [.lit (.int .u8 0), .lit (.int .u8 0)], .agg [.lit (.int .u8 0), .lit (.int .u8 0)], .agg [.lit (.int .u8 0), .lit (.int .u8 0)], .agg [.lit (.int .u8 0), .lit (.int .u8 0)]]
/-- One of Go's own tables, pinned by name: the form's constant. -/
def laid_unicode_utf8_first : DataW Unit := Go.Pinned.utf8First

/-- 'laws.FnExactIsLine': WHATEVER THE INPUT: true; the input reads as it did. -/
def fnExactIsLineSpec : ChangeSpec := { name := "fnExactIsLine", fn := fun _ => fun
  | [d] => { results := [.lit (.bool true)], args := [d] }
  | _ => none }
def fnExactIsLineRow : OpenClaim := { program := "ytogimjbjdgccnaadoor", sum := "44cf338d0afa32ac384ba99f68f353bba06a263f0f6b505a6faa8cef6ff091b1", func := "loop.example/g01217/laws.FnExactIsLine", spec := "fnExactIsLine", inPlace := ["internal/bytealg.IndexByteString", "internal/bytealg.IndexString"], named := ["unicode/utf8.first", "unicode/utf8.acceptRanges", "internal/bytealg.MaxLen"], apart := false, laid := [("unicode/utf8.acceptRanges", laid_unicode_utf8_acceptRanges), ("unicode/utf8.first", laid_unicode_utf8_first)] }
def FnExactIsLineSaid : Prop := fnExactIsLineRow.holds Tryd.pinned (OpenSpec.ofChange fnExactIsLineSpec)

/-- ITS FALSE NEIGHBOUR: 'it returns false'. Refute it at one input. -/
def fnExactIsLineWrong : ChangeSpec := { name := "fnExactIsLine", fn := fun _ => fun
  | [d] => { results := [.lit (.bool false)], args := [d] }
  | _ => none }
def FnExactIsLineWrongFalsely : Prop := fnExactIsLineRow.holds Tryd.pinned (OpenSpec.ofChange fnExactIsLineWrong)

/-- 'laws.FnExactTrainsOn': WHATEVER THE INPUT: true; the input reads as it did. -/
def fnExactTrainsOnSpec : ChangeSpec := { name := "fnExactTrainsOn", fn := fun _ => fun
  | [d] => { results := [.lit (.bool true)], args := [d] }
  | _ => none }
def fnExactTrainsOnRow : OpenClaim := { program := "ytogimjbjdgccnaadoor", sum := "44cf338d0afa32ac384ba99f68f353bba06a263f0f6b505a6faa8cef6ff091b1", func := "loop.example/g01217/laws.FnExactTrainsOn", spec := "fnExactTrainsOn", inPlace := ["internal/bytealg.IndexByteString", "internal/bytealg.IndexString", "internal/bytealg.CountString"], named := ["unicode/utf8.first", "unicode/utf8.acceptRanges", "internal/bytealg.MaxLen"], apart := false, laid := [("unicode/utf8.acceptRanges", laid_unicode_utf8_acceptRanges), ("unicode/utf8.first", laid_unicode_utf8_first)] }
def FnExactTrainsOnSaid : Prop := fnExactTrainsOnRow.holds Tryd.pinned (OpenSpec.ofChange fnExactTrainsOnSpec)

/-- ITS FALSE NEIGHBOUR: 'it returns false'. Refute it at one input. -/
def fnExactTrainsOnWrong : ChangeSpec := { name := "fnExactTrainsOn", fn := fun _ => fun
  | [d] => { results := [.lit (.bool false)], args := [d] }
  | _ => none }
def FnExactTrainsOnWrongFalsely : Prop := fnExactTrainsOnRow.holds Tryd.pinned (OpenSpec.ofChange fnExactTrainsOnWrong)

/-- 'laws.FnExactSignalsOf': WHATEVER THE INPUT: true; the input reads as it did. -/
def fnExactSignalsOfSpec : ChangeSpec := { name := "fnExactSignalsOf", fn := fun _ => fun
  | [d1, d2] => { results := [.lit (.bool true)], args := [d1, d2] }
  | _ => none }
def fnExactSignalsOfRow : OpenClaim := { program := "ytogimjbjdgccnaadoor", sum := "44cf338d0afa32ac384ba99f68f353bba06a263f0f6b505a6faa8cef6ff091b1", func := "loop.example/g01217/laws.FnExactSignalsOf", spec := "fnExactSignalsOf", inPlace := ["internal/bytealg.IndexByteString", "internal/bytealg.IndexString", "internal/abi.NoEscape"], named := ["unicode/utf8.first", "unicode/utf8.acceptRanges", "internal/bytealg.MaxLen"], apart := false, laid := [("unicode/utf8.acceptRanges", laid_unicode_utf8_acceptRanges), ("unicode/utf8.first", laid_unicode_utf8_first)] }
def FnExactSignalsOfSaid : Prop := fnExactSignalsOfRow.holds Tryd.pinned (OpenSpec.ofChange fnExactSignalsOfSpec)

/-- ITS FALSE NEIGHBOUR: 'it returns false'. Refute it at one input. -/
def fnExactSignalsOfWrong : ChangeSpec := { name := "fnExactSignalsOf", fn := fun _ => fun
  | [d1, d2] => { results := [.lit (.bool false)], args := [d1, d2] }
  | _ => none }
def FnExactSignalsOfWrongFalsely : Prop := fnExactSignalsOfRow.holds Tryd.pinned (OpenSpec.ofChange fnExactSignalsOfWrong)

/-- 'laws.FnExactTickLine': WHATEVER THE INPUT: true; the input reads as it did. -/
def fnExactTickLineSpec : ChangeSpec := { name := "fnExactTickLine", fn := fun _ => fun
  | [d1, d2] => { results := [.lit (.bool true)], args := [d1, d2] }
  | _ => none }
def fnExactTickLineRow : OpenClaim := { program := "ytogimjbjdgccnaadoor", sum := "44cf338d0afa32ac384ba99f68f353bba06a263f0f6b505a6faa8cef6ff091b1", func := "loop.example/g01217/laws.FnExactTickLine", spec := "fnExactTickLine", inPlace := ["internal/bytealg.IndexByteString", "internal/bytealg.IndexString", "internal/abi.NoEscape", "internal/bytealg.CountString", "internal/bytealg.MakeNoZero"], named := ["unicode/utf8.first", "unicode/utf8.acceptRanges", "internal/bytealg.MaxLen"], apart := false, laid := [("unicode/utf8.acceptRanges", laid_unicode_utf8_acceptRanges), ("unicode/utf8.first", laid_unicode_utf8_first)] }
def FnExactTickLineSaid : Prop := fnExactTickLineRow.holds Tryd.pinned (OpenSpec.ofChange fnExactTickLineSpec)

/-- ITS FALSE NEIGHBOUR: 'it returns false'. Refute it at one input. -/
def fnExactTickLineWrong : ChangeSpec := { name := "fnExactTickLine", fn := fun _ => fun
  | [d1, d2] => { results := [.lit (.bool false)], args := [d1, d2] }
  | _ => none }
def FnExactTickLineWrongFalsely : Prop := fnExactTickLineRow.holds Tryd.pinned (OpenSpec.ofChange fnExactTickLineWrong)

/-- 'laws.FnExactLineAfter': WHATEVER THE INPUT: true; the input reads as it did. -/
def fnExactLineAfterSpec : ChangeSpec := { name := "fnExactLineAfter", fn := fun _ => fun
  | [d1, d2, d3] => { results := [.lit (.bool true)], args := [d1, d2, d3] }
  | _ => none }
def fnExactLineAfterRow : OpenClaim := { program := "ytogimjbjdgccnaadoor", sum := "44cf338d0afa32ac384ba99f68f353bba06a263f0f6b505a6faa8cef6ff091b1", func := "loop.example/g01217/laws.FnExactLineAfter", spec := "fnExactLineAfter", inPlace := ["internal/bytealg.IndexByteString", "internal/bytealg.IndexString", "internal/abi.NoEscape", "internal/bytealg.CountString", "internal/bytealg.MakeNoZero"], named := ["unicode/utf8.first", "unicode/utf8.acceptRanges", "internal/bytealg.MaxLen"], apart := false, laid := [("unicode/utf8.acceptRanges", laid_unicode_utf8_acceptRanges), ("unicode/utf8.first", laid_unicode_utf8_first)] }
def FnExactLineAfterSaid : Prop := fnExactLineAfterRow.holds Tryd.pinned (OpenSpec.ofChange fnExactLineAfterSpec)

/-- ITS FALSE NEIGHBOUR: 'it returns false'. Refute it at one input. -/
def fnExactLineAfterWrong : ChangeSpec := { name := "fnExactLineAfter", fn := fun _ => fun
  | [d1, d2, d3] => { results := [.lit (.bool false)], args := [d1, d2, d3] }
  | _ => none }
def FnExactLineAfterWrongFalsely : Prop := fnExactLineAfterRow.holds Tryd.pinned (OpenSpec.ofChange fnExactLineAfterWrong)

/-- 'laws.FnExactMovesIn': WHATEVER THE INPUT: true; the input reads as it did. -/
def fnExactMovesInSpec : ChangeSpec := { name := "fnExactMovesIn", fn := fun _ => fun
  | [d1, d2, d3] => { results := [.lit (.bool true)], args := [d1, d2, d3] }
  | _ => none }
def fnExactMovesInRow : OpenClaim := { program := "ytogimjbjdgccnaadoor", sum := "44cf338d0afa32ac384ba99f68f353bba06a263f0f6b505a6faa8cef6ff091b1", func := "loop.example/g01217/laws.FnExactMovesIn", spec := "fnExactMovesIn", inPlace := ["internal/bytealg.IndexByteString", "internal/bytealg.IndexString", "internal/abi.NoEscape", "internal/bytealg.CountString"], named := ["unicode/utf8.first", "unicode/utf8.acceptRanges", "internal/bytealg.MaxLen"], apart := false, laid := [("unicode/utf8.acceptRanges", laid_unicode_utf8_acceptRanges), ("unicode/utf8.first", laid_unicode_utf8_first)] }
def FnExactMovesInSaid : Prop := fnExactMovesInRow.holds Tryd.pinned (OpenSpec.ofChange fnExactMovesInSpec)

/-- ITS FALSE NEIGHBOUR: 'it returns false'. Refute it at one input. -/
def fnExactMovesInWrong : ChangeSpec := { name := "fnExactMovesIn", fn := fun _ => fun
  | [d1, d2, d3] => { results := [.lit (.bool false)], args := [d1, d2, d3] }
  | _ => none }
def FnExactMovesInWrongFalsely : Prop := fnExactMovesInRow.holds Tryd.pinned (OpenSpec.ofChange fnExactMovesInWrong)

/-- 'laws.FnExactWaitsIn': WHATEVER THE INPUT: true; the input reads as it did. -/
def fnExactWaitsInSpec : ChangeSpec := { name := "fnExactWaitsIn", fn := fun _ => fun
  | [d1, d2, d3] => { results := [.lit (.bool true)], args := [d1, d2, d3] }
  | _ => none }
def fnExactWaitsInRow : OpenClaim := { program := "ytogimjbjdgccnaadoor", sum := "44cf338d0afa32ac384ba99f68f353bba06a263f0f6b505a6faa8cef6ff091b1", func := "loop.example/g01217/laws.FnExactWaitsIn", spec := "fnExactWaitsIn", inPlace := ["internal/bytealg.IndexByteString", "internal/bytealg.IndexString", "internal/abi.NoEscape", "internal/bytealg.CountString"], named := ["unicode/utf8.first", "unicode/utf8.acceptRanges", "internal/bytealg.MaxLen"], apart := false, laid := [("unicode/utf8.acceptRanges", laid_unicode_utf8_acceptRanges), ("unicode/utf8.first", laid_unicode_utf8_first)] }
def FnExactWaitsInSaid : Prop := fnExactWaitsInRow.holds Tryd.pinned (OpenSpec.ofChange fnExactWaitsInSpec)

/-- ITS FALSE NEIGHBOUR: 'it returns false'. Refute it at one input. -/
def fnExactWaitsInWrong : ChangeSpec := { name := "fnExactWaitsIn", fn := fun _ => fun
  | [d1, d2, d3] => { results := [.lit (.bool false)], args := [d1, d2, d3] }
  | _ => none }
def FnExactWaitsInWrongFalsely : Prop := fnExactWaitsInRow.holds Tryd.pinned (OpenSpec.ofChange fnExactWaitsInWrong)

/-- 'laws.FnExactGapsOfLine': WHATEVER THE INPUT: true; the input reads as it did. -/
def fnExactGapsOfLineSpec : ChangeSpec := { name := "fnExactGapsOfLine", fn := fun _ => fun
  | [d] => { results := [.lit (.bool true)], args := [d] }
  | _ => none }
def fnExactGapsOfLineRow : OpenClaim := { program := "ytogimjbjdgccnaadoor", sum := "44cf338d0afa32ac384ba99f68f353bba06a263f0f6b505a6faa8cef6ff091b1", func := "loop.example/g01217/laws.FnExactGapsOfLine", spec := "fnExactGapsOfLine", inPlace := ["internal/bytealg.IndexByteString", "internal/bytealg.IndexString"], named := ["unicode/utf8.first", "unicode/utf8.acceptRanges", "internal/bytealg.MaxLen"], apart := false, laid := [("unicode/utf8.acceptRanges", laid_unicode_utf8_acceptRanges), ("unicode/utf8.first", laid_unicode_utf8_first)] }
def FnExactGapsOfLineSaid : Prop := fnExactGapsOfLineRow.holds Tryd.pinned (OpenSpec.ofChange fnExactGapsOfLineSpec)

/-- ITS FALSE NEIGHBOUR: 'it returns false'. Refute it at one input. -/
def fnExactGapsOfLineWrong : ChangeSpec := { name := "fnExactGapsOfLine", fn := fun _ => fun
  | [d] => { results := [.lit (.bool false)], args := [d] }
  | _ => none }
def FnExactGapsOfLineWrongFalsely : Prop := fnExactGapsOfLineRow.holds Tryd.pinned (OpenSpec.ofChange fnExactGapsOfLineWrong)

/-- 'laws.FnExactPeriodOfLine': WHATEVER THE INPUT: true; the input reads as it did. -/
def fnExactPeriodOfLineSpec : ChangeSpec := { name := "fnExactPeriodOfLine", fn := fun _ => fun
  | [d1, d2] => { results := [.lit (.bool true)], args := [d1, d2] }
  | _ => none }
def fnExactPeriodOfLineRow : OpenClaim := { program := "ytogimjbjdgccnaadoor", sum := "44cf338d0afa32ac384ba99f68f353bba06a263f0f6b505a6faa8cef6ff091b1", func := "loop.example/g01217/laws.FnExactPeriodOfLine", spec := "fnExactPeriodOfLine", inPlace := ["internal/bytealg.IndexByteString", "internal/bytealg.IndexString", "internal/abi.NoEscape"], named := ["unicode/utf8.first", "unicode/utf8.acceptRanges", "internal/bytealg.MaxLen"], apart := false, laid := [("unicode/utf8.acceptRanges", laid_unicode_utf8_acceptRanges), ("unicode/utf8.first", laid_unicode_utf8_first)] }
def FnExactPeriodOfLineSaid : Prop := fnExactPeriodOfLineRow.holds Tryd.pinned (OpenSpec.ofChange fnExactPeriodOfLineSpec)

/-- ITS FALSE NEIGHBOUR: 'it returns false'. Refute it at one input. -/
def fnExactPeriodOfLineWrong : ChangeSpec := { name := "fnExactPeriodOfLine", fn := fun _ => fun
  | [d1, d2] => { results := [.lit (.bool false)], args := [d1, d2] }
  | _ => none }
def FnExactPeriodOfLineWrongFalsely : Prop := fnExactPeriodOfLineRow.holds Tryd.pinned (OpenSpec.ofChange fnExactPeriodOfLineWrong)

/-- 'laws.FnExactSpeedOf': WHATEVER THE INPUT: true; the input reads as it did. -/
def fnExactSpeedOfSpec : ChangeSpec := { name := "fnExactSpeedOf", fn := fun _ => fun
  | [d1, d2] => { results := [.lit (.bool true)], args := [d1, d2] }
  | _ => none }
def fnExactSpeedOfRow : OpenClaim := { program := "ytogimjbjdgccnaadoor", sum := "44cf338d0afa32ac384ba99f68f353bba06a263f0f6b505a6faa8cef6ff091b1", func := "loop.example/g01217/laws.FnExactSpeedOf", spec := "fnExactSpeedOf", inPlace := ["internal/bytealg.IndexByteString", "internal/bytealg.IndexString", "internal/abi.NoEscape", "internal/bytealg.MakeNoZero", "internal/bytealg.CountString"], named := ["unicode/utf8.first", "unicode/utf8.acceptRanges", "internal/bytealg.MaxLen"], apart := false, laid := [("unicode/utf8.acceptRanges", laid_unicode_utf8_acceptRanges), ("unicode/utf8.first", laid_unicode_utf8_first)] }
def FnExactSpeedOfSaid : Prop := fnExactSpeedOfRow.holds Tryd.pinned (OpenSpec.ofChange fnExactSpeedOfSpec)

/-- ITS FALSE NEIGHBOUR: 'it returns false'. Refute it at one input. -/
def fnExactSpeedOfWrong : ChangeSpec := { name := "fnExactSpeedOf", fn := fun _ => fun
  | [d1, d2] => { results := [.lit (.bool false)], args := [d1, d2] }
  | _ => none }
def FnExactSpeedOfWrongFalsely : Prop := fnExactSpeedOfRow.holds Tryd.pinned (OpenSpec.ofChange fnExactSpeedOfWrong)

/-- 'laws.FnExactFirstFree': WHATEVER THE INPUT: true; the input reads as it did. -/
def fnExactFirstFreeSpec : ChangeSpec := { name := "fnExactFirstFree", fn := fun _ => fun
  | [d1, d2] => { results := [.lit (.bool true)], args := [d1, d2] }
  | _ => none }
def fnExactFirstFreeRow : OpenClaim := { program := "ytogimjbjdgccnaadoor", sum := "44cf338d0afa32ac384ba99f68f353bba06a263f0f6b505a6faa8cef6ff091b1", func := "loop.example/g01217/laws.FnExactFirstFree", spec := "fnExactFirstFree", inPlace := ["internal/bytealg.IndexByteString", "internal/bytealg.IndexString", "internal/abi.NoEscape"], named := ["unicode/utf8.first", "unicode/utf8.acceptRanges", "internal/bytealg.MaxLen"], apart := false, laid := [("unicode/utf8.acceptRanges", laid_unicode_utf8_acceptRanges), ("unicode/utf8.first", laid_unicode_utf8_first)] }
def FnExactFirstFreeSaid : Prop := fnExactFirstFreeRow.holds Tryd.pinned (OpenSpec.ofChange fnExactFirstFreeSpec)

/-- ITS FALSE NEIGHBOUR: 'it returns false'. Refute it at one input. -/
def fnExactFirstFreeWrong : ChangeSpec := { name := "fnExactFirstFree", fn := fun _ => fun
  | [d1, d2] => { results := [.lit (.bool false)], args := [d1, d2] }
  | _ => none }
def FnExactFirstFreeWrongFalsely : Prop := fnExactFirstFreeRow.holds Tryd.pinned (OpenSpec.ofChange fnExactFirstFreeWrong)

/-- 'laws.FnExactIsStuck': WHATEVER THE INPUT: true; the input reads as it did. -/
def fnExactIsStuckSpec : ChangeSpec := { name := "fnExactIsStuck", fn := fun _ => fun
  | [d1, d2] => { results := [.lit (.bool true)], args := [d1, d2] }
  | _ => none }
def fnExactIsStuckRow : OpenClaim := { program := "ytogimjbjdgccnaadoor", sum := "44cf338d0afa32ac384ba99f68f353bba06a263f0f6b505a6faa8cef6ff091b1", func := "loop.example/g01217/laws.FnExactIsStuck", spec := "fnExactIsStuck", inPlace := ["internal/bytealg.IndexByteString", "internal/bytealg.IndexString", "internal/abi.NoEscape"], named := ["unicode/utf8.first", "unicode/utf8.acceptRanges", "internal/bytealg.MaxLen"], apart := false, laid := [("unicode/utf8.acceptRanges", laid_unicode_utf8_acceptRanges), ("unicode/utf8.first", laid_unicode_utf8_first)] }
def FnExactIsStuckSaid : Prop := fnExactIsStuckRow.holds Tryd.pinned (OpenSpec.ofChange fnExactIsStuckSpec)

/-- ITS FALSE NEIGHBOUR: 'it returns false'. Refute it at one input. -/
def fnExactIsStuckWrong : ChangeSpec := { name := "fnExactIsStuck", fn := fun _ => fun
  | [d1, d2] => { results := [.lit (.bool false)], args := [d1, d2] }
  | _ => none }
def FnExactIsStuckWrongFalsely : Prop := fnExactIsStuckRow.holds Tryd.pinned (OpenSpec.ofChange fnExactIsStuckWrong)

/-- 'laws.FnExactHoleLine': WHATEVER THE INPUT: true; the input reads as it did. -/
def fnExactHoleLineSpec : ChangeSpec := { name := "fnExactHoleLine", fn := fun _ => fun
  | [d] => { results := [.lit (.bool true)], args := [d] }
  | _ => none }
def fnExactHoleLineRow : OpenClaim := { program := "ytogimjbjdgccnaadoor", sum := "44cf338d0afa32ac384ba99f68f353bba06a263f0f6b505a6faa8cef6ff091b1", func := "loop.example/g01217/laws.FnExactHoleLine", spec := "fnExactHoleLine", inPlace := ["internal/bytealg.IndexByteString", "internal/bytealg.IndexString", "internal/abi.NoEscape", "internal/bytealg.MakeNoZero"], named := ["unicode/utf8.first", "unicode/utf8.acceptRanges", "internal/bytealg.MaxLen"], apart := false, laid := [("unicode/utf8.acceptRanges", laid_unicode_utf8_acceptRanges), ("unicode/utf8.first", laid_unicode_utf8_first)] }
def FnExactHoleLineSaid : Prop := fnExactHoleLineRow.holds Tryd.pinned (OpenSpec.ofChange fnExactHoleLineSpec)

/-- ITS FALSE NEIGHBOUR: 'it returns false'. Refute it at one input. -/
def fnExactHoleLineWrong : ChangeSpec := { name := "fnExactHoleLine", fn := fun _ => fun
  | [d] => { results := [.lit (.bool false)], args := [d] }
  | _ => none }
def FnExactHoleLineWrongFalsely : Prop := fnExactHoleLineRow.holds Tryd.pinned (OpenSpec.ofChange fnExactHoleLineWrong)

/-- 'laws.FnExactSpinLine': WHATEVER THE INPUT: true; the input reads as it did. -/
def fnExactSpinLineSpec : ChangeSpec := { name := "fnExactSpinLine", fn := fun _ => fun
  | [d1, d2] => { results := [.lit (.bool true)], args := [d1, d2] }
  | _ => none }
def fnExactSpinLineRow : OpenClaim := { program := "ytogimjbjdgccnaadoor", sum := "44cf338d0afa32ac384ba99f68f353bba06a263f0f6b505a6faa8cef6ff091b1", func := "loop.example/g01217/laws.FnExactSpinLine", spec := "fnExactSpinLine", inPlace := ["internal/bytealg.IndexByteString", "internal/bytealg.IndexString"], named := ["unicode/utf8.first", "unicode/utf8.acceptRanges", "internal/bytealg.MaxLen"], apart := false, laid := [("unicode/utf8.acceptRanges", laid_unicode_utf8_acceptRanges), ("unicode/utf8.first", laid_unicode_utf8_first)] }
def FnExactSpinLineSaid : Prop := fnExactSpinLineRow.holds Tryd.pinned (OpenSpec.ofChange fnExactSpinLineSpec)

/-- ITS FALSE NEIGHBOUR: 'it returns false'. Refute it at one input. -/
def fnExactSpinLineWrong : ChangeSpec := { name := "fnExactSpinLine", fn := fun _ => fun
  | [d1, d2] => { results := [.lit (.bool false)], args := [d1, d2] }
  | _ => none }
def FnExactSpinLineWrongFalsely : Prop := fnExactSpinLineRow.holds Tryd.pinned (OpenSpec.ofChange fnExactSpinLineWrong)

/-- 'laws.FnExactCountLinesWith': WHATEVER THE INPUT: true; the input reads as it did. -/
def fnExactCountLinesWithSpec : ChangeSpec := { name := "fnExactCountLinesWith", fn := fun _ => fun
  | [d1, d2, d3] => { results := [.lit (.bool true)], args := [d1, d2, d3] }
  | _ => none }
def fnExactCountLinesWithRow : OpenClaim := { program := "ytogimjbjdgccnaadoor", sum := "44cf338d0afa32ac384ba99f68f353bba06a263f0f6b505a6faa8cef6ff091b1", func := "loop.example/g01217/laws.FnExactCountLinesWith", spec := "fnExactCountLinesWith", inPlace := ["internal/bytealg.IndexByteString", "internal/bytealg.IndexString", "internal/abi.NoEscape", "internal/bytealg.CountString"], named := ["unicode/utf8.first", "unicode/utf8.acceptRanges", "internal/bytealg.MaxLen"], apart := false, laid := [("unicode/utf8.acceptRanges", laid_unicode_utf8_acceptRanges), ("unicode/utf8.first", laid_unicode_utf8_first)] }
def FnExactCountLinesWithSaid : Prop := fnExactCountLinesWithRow.holds Tryd.pinned (OpenSpec.ofChange fnExactCountLinesWithSpec)

/-- ITS FALSE NEIGHBOUR: 'it returns false'. Refute it at one input. -/
def fnExactCountLinesWithWrong : ChangeSpec := { name := "fnExactCountLinesWith", fn := fun _ => fun
  | [d1, d2, d3] => { results := [.lit (.bool false)], args := [d1, d2, d3] }
  | _ => none }
def FnExactCountLinesWithWrongFalsely : Prop := fnExactCountLinesWithRow.holds Tryd.pinned (OpenSpec.ofChange fnExactCountLinesWithWrong)

/- THE SECOND FORM. 'bulk': how many values and letters a reading holds, each counted each time it is reached (what is shared counts as often as it is met; a slice's spare places count too). A statement '..UptoSaid' is the law's where the arguments, and the package variables that the reading takes, are together of bulk at most 1048576: NARROWER than '..Said'. Prove '..Said' where nothing that the law and all that it calls make is longer than what came in: it says more and counts as full. Else prove '..UptoSaid'. A law counts once. -/
mutual
def uptoBulk {H : Type} : DataW H → Nat
  | .lit (.string bytes) => bytes.length + 1
  | .lit _ => 1
  | .nil => 1
  | .ptr d => uptoBulk d + 1
  | .slice elems spare => uptoBulkAll elems + uptoBulkAll spare + 1
  | .agg parts => uptoBulkAll parts + 1
  | .iface _ d => uptoBulk d + 1
  | .map entries => uptoBulkEntries entries + 1
  | .held _ => 1
def uptoBulkAll {H : Type} : List (DataW H) → Nat
  | [] => 0
  | d :: r => uptoBulk d + uptoBulkAll r
def uptoBulkEntries {H : Type} : List (Lit × DataW H) → Nat
  | [] => 0
  | x :: r => uptoBulkEntry x + uptoBulkEntries r
def uptoBulkEntry {H : Type} : Lit × DataW H → Nat
  | (.string bytes, d) => bytes.length + uptoBulk d + 1
  | (_, d) => uptoBulk d + 1
 end
def uptoSmall : (H : Type) → List (DataW H) → Bool := fun _ ds => decide (uptoBulkAll ds ≤ 1048576)
def OpenSpec.upto (s : _root_.Go.ChangeSpec) : _root_.Go.OpenSpec := { _root_.Go.OpenSpec.ofChange s with cond := some uptoSmall }

/-- 'laws.FnExactIsLine', WHERE WHAT IT READS IS OF BULK AT MOST 1048576: true; the input reads as it did. -/
def fnExactIsLineUptoRow : OpenClaim := { program := "ytogimjbjdgccnaadoor", sum := "44cf338d0afa32ac384ba99f68f353bba06a263f0f6b505a6faa8cef6ff091b1", func := "loop.example/g01217/laws.FnExactIsLine", spec := "fnExactIsLine", inPlace := ["internal/bytealg.IndexByteString", "internal/bytealg.IndexString"], named := ["unicode/utf8.first", "unicode/utf8.acceptRanges", "internal/bytealg.MaxLen"], apart := false, laid := [("unicode/utf8.acceptRanges", laid_unicode_utf8_acceptRanges), ("unicode/utf8.first", laid_unicode_utf8_first)], narrowed := true }
def FnExactIsLineUptoSaid : Prop := fnExactIsLineUptoRow.holds Tryd.pinned (OpenSpec.upto fnExactIsLineSpec)

/-- 'laws.FnExactTrainsOn', WHERE WHAT IT READS IS OF BULK AT MOST 1048576: true; the input reads as it did. -/
def fnExactTrainsOnUptoRow : OpenClaim := { program := "ytogimjbjdgccnaadoor", sum := "44cf338d0afa32ac384ba99f68f353bba06a263f0f6b505a6faa8cef6ff091b1", func := "loop.example/g01217/laws.FnExactTrainsOn", spec := "fnExactTrainsOn", inPlace := ["internal/bytealg.IndexByteString", "internal/bytealg.IndexString", "internal/bytealg.CountString"], named := ["unicode/utf8.first", "unicode/utf8.acceptRanges", "internal/bytealg.MaxLen"], apart := false, laid := [("unicode/utf8.acceptRanges", laid_unicode_utf8_acceptRanges), ("unicode/utf8.first", laid_unicode_utf8_first)], narrowed := true }
def FnExactTrainsOnUptoSaid : Prop := fnExactTrainsOnUptoRow.holds Tryd.pinned (OpenSpec.upto fnExactTrainsOnSpec)

/-- 'laws.FnExactSignalsOf', WHERE WHAT IT READS IS OF BULK AT MOST 1048576: true; the input reads as it did. -/
def fnExactSignalsOfUptoRow : OpenClaim := { program := "ytogimjbjdgccnaadoor", sum := "44cf338d0afa32ac384ba99f68f353bba06a263f0f6b505a6faa8cef6ff091b1", func := "loop.example/g01217/laws.FnExactSignalsOf", spec := "fnExactSignalsOf", inPlace := ["internal/bytealg.IndexByteString", "internal/bytealg.IndexString", "internal/abi.NoEscape"], named := ["unicode/utf8.first", "unicode/utf8.acceptRanges", "internal/bytealg.MaxLen"], apart := false, laid := [("unicode/utf8.acceptRanges", laid_unicode_utf8_acceptRanges), ("unicode/utf8.first", laid_unicode_utf8_first)], narrowed := true }
def FnExactSignalsOfUptoSaid : Prop := fnExactSignalsOfUptoRow.holds Tryd.pinned (OpenSpec.upto fnExactSignalsOfSpec)

/-- 'laws.FnExactTickLine', WHERE WHAT IT READS IS OF BULK AT MOST 1048576: true; the input reads as it did. -/
def fnExactTickLineUptoRow : OpenClaim := { program := "ytogimjbjdgccnaadoor", sum := "44cf338d0afa32ac384ba99f68f353bba06a263f0f6b505a6faa8cef6ff091b1", func := "loop.example/g01217/laws.FnExactTickLine", spec := "fnExactTickLine", inPlace := ["internal/bytealg.IndexByteString", "internal/bytealg.IndexString", "internal/abi.NoEscape", "internal/bytealg.CountString", "internal/bytealg.MakeNoZero"], named := ["unicode/utf8.first", "unicode/utf8.acceptRanges", "internal/bytealg.MaxLen"], apart := false, laid := [("unicode/utf8.acceptRanges", laid_unicode_utf8_acceptRanges), ("unicode/utf8.first", laid_unicode_utf8_first)], narrowed := true }
def FnExactTickLineUptoSaid : Prop := fnExactTickLineUptoRow.holds Tryd.pinned (OpenSpec.upto fnExactTickLineSpec)

/-- 'laws.FnExactLineAfter', WHERE WHAT IT READS IS OF BULK AT MOST 1048576: true; the input reads as it did. -/
def fnExactLineAfterUptoRow : OpenClaim := { program := "ytogimjbjdgccnaadoor", sum := "44cf338d0afa32ac384ba99f68f353bba06a263f0f6b505a6faa8cef6ff091b1", func := "loop.example/g01217/laws.FnExactLineAfter", spec := "fnExactLineAfter", inPlace := ["internal/bytealg.IndexByteString", "internal/bytealg.IndexString", "internal/abi.NoEscape", "internal/bytealg.CountString", "internal/bytealg.MakeNoZero"], named := ["unicode/utf8.first", "unicode/utf8.acceptRanges", "internal/bytealg.MaxLen"], apart := false, laid := [("unicode/utf8.acceptRanges", laid_unicode_utf8_acceptRanges), ("unicode/utf8.first", laid_unicode_utf8_first)], narrowed := true }
def FnExactLineAfterUptoSaid : Prop := fnExactLineAfterUptoRow.holds Tryd.pinned (OpenSpec.upto fnExactLineAfterSpec)

/-- 'laws.FnExactMovesIn', WHERE WHAT IT READS IS OF BULK AT MOST 1048576: true; the input reads as it did. -/
def fnExactMovesInUptoRow : OpenClaim := { program := "ytogimjbjdgccnaadoor", sum := "44cf338d0afa32ac384ba99f68f353bba06a263f0f6b505a6faa8cef6ff091b1", func := "loop.example/g01217/laws.FnExactMovesIn", spec := "fnExactMovesIn", inPlace := ["internal/bytealg.IndexByteString", "internal/bytealg.IndexString", "internal/abi.NoEscape", "internal/bytealg.CountString"], named := ["unicode/utf8.first", "unicode/utf8.acceptRanges", "internal/bytealg.MaxLen"], apart := false, laid := [("unicode/utf8.acceptRanges", laid_unicode_utf8_acceptRanges), ("unicode/utf8.first", laid_unicode_utf8_first)], narrowed := true }
def FnExactMovesInUptoSaid : Prop := fnExactMovesInUptoRow.holds Tryd.pinned (OpenSpec.upto fnExactMovesInSpec)

/-- 'laws.FnExactWaitsIn', WHERE WHAT IT READS IS OF BULK AT MOST 1048576: true; the input reads as it did. -/
def fnExactWaitsInUptoRow : OpenClaim := { program := "ytogimjbjdgccnaadoor", sum := "44cf338d0afa32ac384ba99f68f353bba06a263f0f6b505a6faa8cef6ff091b1", func := "loop.example/g01217/laws.FnExactWaitsIn", spec := "fnExactWaitsIn", inPlace := ["internal/bytealg.IndexByteString", "internal/bytealg.IndexString", "internal/abi.NoEscape", "internal/bytealg.CountString"], named := ["unicode/utf8.first", "unicode/utf8.acceptRanges", "internal/bytealg.MaxLen"], apart := false, laid := [("unicode/utf8.acceptRanges", laid_unicode_utf8_acceptRanges), ("unicode/utf8.first", laid_unicode_utf8_first)], narrowed := true }
def FnExactWaitsInUptoSaid : Prop := fnExactWaitsInUptoRow.holds Tryd.pinned (OpenSpec.upto fnExactWaitsInSpec)

/-- 'laws.FnExactGapsOfLine', WHERE WHAT IT READS IS OF BULK AT MOST 1048576: true; the input reads as it did. -/
def fnExactGapsOfLineUptoRow : OpenClaim := { program := "ytogimjbjdgccnaadoor", sum := "44cf338d0afa32ac384ba99f68f353bba06a263f0f6b505a6faa8cef6ff091b1", func := "loop.example/g01217/laws.FnExactGapsOfLine", spec := "fnExactGapsOfLine", inPlace := ["internal/bytealg.IndexByteString", "internal/bytealg.IndexString"], named := ["unicode/utf8.first", "unicode/utf8.acceptRanges", "internal/bytealg.MaxLen"], apart := false, laid := [("unicode/utf8.acceptRanges", laid_unicode_utf8_acceptRanges), ("unicode/utf8.first", laid_unicode_utf8_first)], narrowed := true }
def FnExactGapsOfLineUptoSaid : Prop := fnExactGapsOfLineUptoRow.holds Tryd.pinned (OpenSpec.upto fnExactGapsOfLineSpec)

/-- 'laws.FnExactPeriodOfLine', WHERE WHAT IT READS IS OF BULK AT MOST 1048576: true; the input reads as it did. -/
def fnExactPeriodOfLineUptoRow : OpenClaim := { program := "ytogimjbjdgccnaadoor", sum := "44cf338d0afa32ac384ba99f68f353bba06a263f0f6b505a6faa8cef6ff091b1", func := "loop.example/g01217/laws.FnExactPeriodOfLine", spec := "fnExactPeriodOfLine", inPlace := ["internal/bytealg.IndexByteString", "internal/bytealg.IndexString", "internal/abi.NoEscape"], named := ["unicode/utf8.first", "unicode/utf8.acceptRanges", "internal/bytealg.MaxLen"], apart := false, laid := [("unicode/utf8.acceptRanges", laid_unicode_utf8_acceptRanges), ("unicode/utf8.first", laid_unicode_utf8_first)], narrowed := true }
def FnExactPeriodOfLineUptoSaid : Prop := fnExactPeriodOfLineUptoRow.holds Tryd.pinned (OpenSpec.upto fnExactPeriodOfLineSpec)

/-- 'laws.FnExactSpeedOf', WHERE WHAT IT READS IS OF BULK AT MOST 1048576: true; the input reads as it did. -/
def fnExactSpeedOfUptoRow : OpenClaim := { program := "ytogimjbjdgccnaadoor", sum := "44cf338d0afa32ac384ba99f68f353bba06a263f0f6b505a6faa8cef6ff091b1", func := "loop.example/g01217/laws.FnExactSpeedOf", spec := "fnExactSpeedOf", inPlace := ["internal/bytealg.IndexByteString", "internal/bytealg.IndexString", "internal/abi.NoEscape", "internal/bytealg.MakeNoZero", "internal/bytealg.CountString"], named := ["unicode/utf8.first", "unicode/utf8.acceptRanges", "internal/bytealg.MaxLen"], apart := false, laid := [("unicode/utf8.acceptRanges", laid_unicode_utf8_acceptRanges), ("unicode/utf8.first", laid_unicode_utf8_first)], narrowed := true }
def FnExactSpeedOfUptoSaid : Prop := fnExactSpeedOfUptoRow.holds Tryd.pinned (OpenSpec.upto fnExactSpeedOfSpec)

/-- 'laws.FnExactFirstFree', WHERE WHAT IT READS IS OF BULK AT MOST 1048576: true; the input reads as it did. -/
def fnExactFirstFreeUptoRow : OpenClaim := { program := "ytogimjbjdgccnaadoor", sum := "44cf338d0afa32ac384ba99f68f353bba06a263f0f6b505a6faa8cef6ff091b1", func := "loop.example/g01217/laws.FnExactFirstFree", spec := "fnExactFirstFree", inPlace := ["internal/bytealg.IndexByteString", "internal/bytealg.IndexString", "internal/abi.NoEscape"], named := ["unicode/utf8.first", "unicode/utf8.acceptRanges", "internal/bytealg.MaxLen"], apart := false, laid := [("unicode/utf8.acceptRanges", laid_unicode_utf8_acceptRanges), ("unicode/utf8.first", laid_unicode_utf8_first)], narrowed := true }
def FnExactFirstFreeUptoSaid : Prop := fnExactFirstFreeUptoRow.holds Tryd.pinned (OpenSpec.upto fnExactFirstFreeSpec)

/-- 'laws.FnExactIsStuck', WHERE WHAT IT READS IS OF BULK AT MOST 1048576: true; the input reads as it did. -/
def fnExactIsStuckUptoRow : OpenClaim := { program := "ytogimjbjdgccnaadoor", sum := "44cf338d0afa32ac384ba99f68f353bba06a263f0f6b505a6faa8cef6ff091b1", func := "loop.example/g01217/laws.FnExactIsStuck", spec := "fnExactIsStuck", inPlace := ["internal/bytealg.IndexByteString", "internal/bytealg.IndexString", "internal/abi.NoEscape"], named := ["unicode/utf8.first", "unicode/utf8.acceptRanges", "internal/bytealg.MaxLen"], apart := false, laid := [("unicode/utf8.acceptRanges", laid_unicode_utf8_acceptRanges), ("unicode/utf8.first", laid_unicode_utf8_first)], narrowed := true }
def FnExactIsStuckUptoSaid : Prop := fnExactIsStuckUptoRow.holds Tryd.pinned (OpenSpec.upto fnExactIsStuckSpec)

/-- 'laws.FnExactHoleLine', WHERE WHAT IT READS IS OF BULK AT MOST 1048576: true; the input reads as it did. -/
def fnExactHoleLineUptoRow : OpenClaim := { program := "ytogimjbjdgccnaadoor", sum := "44cf338d0afa32ac384ba99f68f353bba06a263f0f6b505a6faa8cef6ff091b1", func := "loop.example/g01217/laws.FnExactHoleLine", spec := "fnExactHoleLine", inPlace := ["internal/bytealg.IndexByteString", "internal/bytealg.IndexString", "internal/abi.NoEscape", "internal/bytealg.MakeNoZero"], named := ["unicode/utf8.first", "unicode/utf8.acceptRanges", "internal/bytealg.MaxLen"], apart := false, laid := [("unicode/utf8.acceptRanges", laid_unicode_utf8_acceptRanges), ("unicode/utf8.first", laid_unicode_utf8_first)], narrowed := true }
def FnExactHoleLineUptoSaid : Prop := fnExactHoleLineUptoRow.holds Tryd.pinned (OpenSpec.upto fnExactHoleLineSpec)

/-- 'laws.FnExactSpinLine', WHERE WHAT IT READS IS OF BULK AT MOST 1048576: true; the input reads as it did. -/
def fnExactSpinLineUptoRow : OpenClaim := { program := "ytogimjbjdgccnaadoor", sum := "44cf338d0afa32ac384ba99f68f353bba06a263f0f6b505a6faa8cef6ff091b1", func := "loop.example/g01217/laws.FnExactSpinLine", spec := "fnExactSpinLine", inPlace := ["internal/bytealg.IndexByteString", "internal/bytealg.IndexString"], named := ["unicode/utf8.first", "unicode/utf8.acceptRanges", "internal/bytealg.MaxLen"], apart := false, laid := [("unicode/utf8.acceptRanges", laid_unicode_utf8_acceptRanges), ("unicode/utf8.first", laid_unicode_utf8_first)], narrowed := true }
def FnExactSpinLineUptoSaid : Prop := fnExactSpinLineUptoRow.holds Tryd.pinned (OpenSpec.upto fnExactSpinLineSpec)

/-- 'laws.FnExactCountLinesWith', WHERE WHAT IT READS IS OF BULK AT MOST 1048576: true; the input reads as it did. -/
def fnExactCountLinesWithUptoRow : OpenClaim := { program := "ytogimjbjdgccnaadoor", sum := "44cf338d0afa32ac384ba99f68f353bba06a263f0f6b505a6faa8cef6ff091b1", func := "loop.example/g01217/laws.FnExactCountLinesWith", spec := "fnExactCountLinesWith", inPlace := ["internal/bytealg.IndexByteString", "internal/bytealg.IndexString", "internal/abi.NoEscape", "internal/bytealg.CountString"], named := ["unicode/utf8.first", "unicode/utf8.acceptRanges", "internal/bytealg.MaxLen"], apart := false, laid := [("unicode/utf8.acceptRanges", laid_unicode_utf8_acceptRanges), ("unicode/utf8.first", laid_unicode_utf8_first)], narrowed := true }
def FnExactCountLinesWithUptoSaid : Prop := fnExactCountLinesWithUptoRow.holds Tryd.pinned (OpenSpec.upto fnExactCountLinesWithSpec)

end Rows
end Go.Proofs.YtogimjbjdgccnaaDoor
