/-
  NARROWER THAN 'FOR EVERY INPUT', by the rows' own cells (each row's printed sentence says how): FnExactLeastRing: laid · FnExactClassRing: laid · FnExactPeriodOfRing: laid · FnExactCountVariants: laid · FnExactIsOwnMirror: laid · FnExactIsOwnBack: laid · FnExactAreOneClass: laid · FnExactAllClasses: laid · FnExactCountClasses: laid · FnExactSizesOfClasses: laid · FnExactCountOwnMirror: laid · FnExactCountOwnBack: laid.
  DERIVED. THE GIVEN ROWS OF THIS SEAT. 12 by the template 'for every input the law returns true; each argument reads behind the call as it read before'; 0 by the template 'total and deterministic' (their statements: YtoenkgenoloihaaDoorTotals.lean).
  GIVEN WITH THE SEED: the statements are not yours to turn. If you find one false, say at which input.
  Laid BY PROGRAM, IN A SANDBOX (cutbox-rows.mjs): the forced cells as the released guide's own fill.sh prints them over the translation 756f2808d3d9ca35… (all of the seat's roots in one cut). By AI agents, Wed Nov 11 2026. No macro, syntax, notation, axiom, sorry.
-/
import Derived.Test.YtoenkgenoloihaaDoorChecked
import GoSem.PinnedTables
import GoSem.Claim
import GoSem.ClaimJoined
import GoSem.ClaimMapViews
import Derived.JoinedTies
import Derived.KernelRfl
namespace Go.Proofs.YtoenkgenoloihaaDoor
/- THE CELL 'sum', in the pinned program and in every row, IS THE sha256 OF THE DUMP (.gsa) THAT YtoenkgenoloihaaDoorProg.lean LOADS. Nothing in Lean hashes anything: it is a label: what it is worth is what the hold of that sum in a sandbox is worth. -/
noncomputable def Tryd.pinned : Pinned := { name := "ytoenkgenoloihaadoor", sum := "756f2808d3d9ca35fa4cff4bfe7c981da1f86e094b1000f0ee7e6f6091b2097e", checked := Tryd.checked }
namespace Rows
def none {H : Type} : Left H := { results := [], args := [] }

/- WHAT THE LISTED PACKAGE-LEVEL VARIABLES READ AS WHEN THE CALL BEGINS. Each datum BY PROGRAM (the guide's laid-datum.mjs) off the statement by which the dump's own 'gosem.cut.vars' lays the variable. In a bare row this is a premise. The card (YtoenkgenoloihaaDoorCards.lean) ties it to the program's text. -/
def laid_unicode_utf8_acceptRanges {H : Type} : DataW H := .agg [.agg [.lit (.int .u8 128), .lit (.int .u8 191)], .agg [.lit (.int .u8 160), .lit (.int .u8 191)], .agg [.lit (.int .u8 128), .lit (.int .u8 159)], .agg [.lit (.int .u8 144), .lit (.int .u8 191)], .agg [.lit (.int .u8 128), .lit (.int .u8 143)], .agg [.lit (.int .u8 0), .lit (.int .u8 0)], .agg [.lit (.int .u8 0), .lit (.int .u8 0)], .agg [.lit (.int .u8 0), .lit (.int .u8 0)], .agg [.lit (.int .u8 0), .lit (.int .u8 0)], .agg [.lit (.int .u8 0), .lit (.int .u8 0)], .agg [.lit (.int .u8 0), .lit (.int .u8 0)], .agg [.lit (.int .u8 0), .lit (.int .u8 0)], .agg [.lit (.int .u8 0), .lit (.int .u8 0)], .agg [.lit (.int .u8 0), .lit (.int .u8 0)], .agg [.lit (.int .u8 0), .lit (.int .u8 0)], .agg [.lit (.int .u8 0), .lit (.int .u8 0)]]
/-- One of Go's own tables, pinned by name: the form's constant. -/
def laid_unicode_utf8_first : DataW Unit := Go.Pinned.utf8First

/-- 'laws.FnExactLeastRing': WHATEVER THE INPUT: true; the input reads as it did. -/
def fnExactLeastRingSpec : ChangeSpec := { name := "fnExactLeastRing", fn := fun _ => fun
  | [d] => { results := [.lit (.bool true)], args := [d] }
  | _ => none }
def fnExactLeastRingRow : OpenClaim := { program := "ytoenkgenoloihaadoor", sum := "756f2808d3d9ca35fa4cff4bfe7c981da1f86e094b1000f0ee7e6f6091b2097e", func := "loop.example/g01217/laws.FnExactLeastRing", spec := "fnExactLeastRing", inPlace := ["internal/bytealg.IndexByteString", "internal/bytealg.IndexString", "internal/bytealg.Compare"], unfollowed := true, recurses := true, named := ["unicode/utf8.first", "unicode/utf8.acceptRanges", "internal/bytealg.MaxLen"], plainKeys := false, apart := false, laid := [("unicode/utf8.acceptRanges", laid_unicode_utf8_acceptRanges), ("unicode/utf8.first", laid_unicode_utf8_first)] }
def FnExactLeastRingSaid : Prop := fnExactLeastRingRow.holds Tryd.pinned (OpenSpec.ofChange fnExactLeastRingSpec)

/-- ITS FALSE NEIGHBOUR: 'it returns false'. Refute it at one input. -/
def fnExactLeastRingWrong : ChangeSpec := { name := "fnExactLeastRing", fn := fun _ => fun
  | [d] => { results := [.lit (.bool false)], args := [d] }
  | _ => none }
def FnExactLeastRingWrongFalsely : Prop := fnExactLeastRingRow.holds Tryd.pinned (OpenSpec.ofChange fnExactLeastRingWrong)

/-- 'laws.FnExactClassRing': WHATEVER THE INPUT: true; the input reads as it did. -/
def fnExactClassRingSpec : ChangeSpec := { name := "fnExactClassRing", fn := fun _ => fun
  | [d] => { results := [.lit (.bool true)], args := [d] }
  | _ => none }
def fnExactClassRingRow : OpenClaim := { program := "ytoenkgenoloihaadoor", sum := "756f2808d3d9ca35fa4cff4bfe7c981da1f86e094b1000f0ee7e6f6091b2097e", func := "loop.example/g01217/laws.FnExactClassRing", spec := "fnExactClassRing", inPlace := ["internal/bytealg.IndexByteString", "internal/bytealg.IndexString", "internal/bytealg.Compare"], unfollowed := true, recurses := true, named := ["unicode/utf8.first", "unicode/utf8.acceptRanges", "internal/bytealg.MaxLen"], plainKeys := false, apart := false, laid := [("unicode/utf8.acceptRanges", laid_unicode_utf8_acceptRanges), ("unicode/utf8.first", laid_unicode_utf8_first)] }
def FnExactClassRingSaid : Prop := fnExactClassRingRow.holds Tryd.pinned (OpenSpec.ofChange fnExactClassRingSpec)

/-- ITS FALSE NEIGHBOUR: 'it returns false'. Refute it at one input. -/
def fnExactClassRingWrong : ChangeSpec := { name := "fnExactClassRing", fn := fun _ => fun
  | [d] => { results := [.lit (.bool false)], args := [d] }
  | _ => none }
def FnExactClassRingWrongFalsely : Prop := fnExactClassRingRow.holds Tryd.pinned (OpenSpec.ofChange fnExactClassRingWrong)

/-- 'laws.FnExactPeriodOfRing': WHATEVER THE INPUT: true; the input reads as it did. -/
def fnExactPeriodOfRingSpec : ChangeSpec := { name := "fnExactPeriodOfRing", fn := fun _ => fun
  | [d] => { results := [.lit (.bool true)], args := [d] }
  | _ => none }
def fnExactPeriodOfRingRow : OpenClaim := { program := "ytoenkgenoloihaadoor", sum := "756f2808d3d9ca35fa4cff4bfe7c981da1f86e094b1000f0ee7e6f6091b2097e", func := "loop.example/g01217/laws.FnExactPeriodOfRing", spec := "fnExactPeriodOfRing", inPlace := ["internal/bytealg.IndexByteString", "internal/bytealg.IndexString"], unfollowed := true, recurses := true, named := ["unicode/utf8.first", "unicode/utf8.acceptRanges", "internal/bytealg.MaxLen"], plainKeys := false, apart := false, laid := [("unicode/utf8.acceptRanges", laid_unicode_utf8_acceptRanges), ("unicode/utf8.first", laid_unicode_utf8_first)] }
def FnExactPeriodOfRingSaid : Prop := fnExactPeriodOfRingRow.holds Tryd.pinned (OpenSpec.ofChange fnExactPeriodOfRingSpec)

/-- ITS FALSE NEIGHBOUR: 'it returns false'. Refute it at one input. -/
def fnExactPeriodOfRingWrong : ChangeSpec := { name := "fnExactPeriodOfRing", fn := fun _ => fun
  | [d] => { results := [.lit (.bool false)], args := [d] }
  | _ => none }
def FnExactPeriodOfRingWrongFalsely : Prop := fnExactPeriodOfRingRow.holds Tryd.pinned (OpenSpec.ofChange fnExactPeriodOfRingWrong)

/-- 'laws.FnExactCountVariants': WHATEVER THE INPUT: true; the input reads as it did. -/
def fnExactCountVariantsSpec : ChangeSpec := { name := "fnExactCountVariants", fn := fun _ => fun
  | [d] => { results := [.lit (.bool true)], args := [d] }
  | _ => none }
def fnExactCountVariantsRow : OpenClaim := { program := "ytoenkgenoloihaadoor", sum := "756f2808d3d9ca35fa4cff4bfe7c981da1f86e094b1000f0ee7e6f6091b2097e", func := "loop.example/g01217/laws.FnExactCountVariants", spec := "fnExactCountVariants", inPlace := ["internal/bytealg.IndexByteString", "internal/bytealg.IndexString", "internal/bytealg.Compare"], unfollowed := true, recurses := true, named := ["unicode/utf8.first", "unicode/utf8.acceptRanges", "internal/bytealg.MaxLen"], plainKeys := false, apart := false, laid := [("unicode/utf8.acceptRanges", laid_unicode_utf8_acceptRanges), ("unicode/utf8.first", laid_unicode_utf8_first)] }
def FnExactCountVariantsSaid : Prop := fnExactCountVariantsRow.holds Tryd.pinned (OpenSpec.ofChange fnExactCountVariantsSpec)

/-- ITS FALSE NEIGHBOUR: 'it returns false'. Refute it at one input. -/
def fnExactCountVariantsWrong : ChangeSpec := { name := "fnExactCountVariants", fn := fun _ => fun
  | [d] => { results := [.lit (.bool false)], args := [d] }
  | _ => none }
def FnExactCountVariantsWrongFalsely : Prop := fnExactCountVariantsRow.holds Tryd.pinned (OpenSpec.ofChange fnExactCountVariantsWrong)

/-- 'laws.FnExactIsOwnMirror': WHATEVER THE INPUT: true; the input reads as it did. -/
def fnExactIsOwnMirrorSpec : ChangeSpec := { name := "fnExactIsOwnMirror", fn := fun _ => fun
  | [d] => { results := [.lit (.bool true)], args := [d] }
  | _ => none }
def fnExactIsOwnMirrorRow : OpenClaim := { program := "ytoenkgenoloihaadoor", sum := "756f2808d3d9ca35fa4cff4bfe7c981da1f86e094b1000f0ee7e6f6091b2097e", func := "loop.example/g01217/laws.FnExactIsOwnMirror", spec := "fnExactIsOwnMirror", inPlace := ["internal/bytealg.IndexByteString", "internal/bytealg.IndexString"], unfollowed := true, recurses := true, named := ["unicode/utf8.first", "unicode/utf8.acceptRanges", "internal/bytealg.MaxLen"], plainKeys := false, apart := false, laid := [("unicode/utf8.acceptRanges", laid_unicode_utf8_acceptRanges), ("unicode/utf8.first", laid_unicode_utf8_first)] }
def FnExactIsOwnMirrorSaid : Prop := fnExactIsOwnMirrorRow.holds Tryd.pinned (OpenSpec.ofChange fnExactIsOwnMirrorSpec)

/-- ITS FALSE NEIGHBOUR: 'it returns false'. Refute it at one input. -/
def fnExactIsOwnMirrorWrong : ChangeSpec := { name := "fnExactIsOwnMirror", fn := fun _ => fun
  | [d] => { results := [.lit (.bool false)], args := [d] }
  | _ => none }
def FnExactIsOwnMirrorWrongFalsely : Prop := fnExactIsOwnMirrorRow.holds Tryd.pinned (OpenSpec.ofChange fnExactIsOwnMirrorWrong)

/-- 'laws.FnExactIsOwnBack': WHATEVER THE INPUT: true; the input reads as it did. -/
def fnExactIsOwnBackSpec : ChangeSpec := { name := "fnExactIsOwnBack", fn := fun _ => fun
  | [d] => { results := [.lit (.bool true)], args := [d] }
  | _ => none }
def fnExactIsOwnBackRow : OpenClaim := { program := "ytoenkgenoloihaadoor", sum := "756f2808d3d9ca35fa4cff4bfe7c981da1f86e094b1000f0ee7e6f6091b2097e", func := "loop.example/g01217/laws.FnExactIsOwnBack", spec := "fnExactIsOwnBack", inPlace := ["internal/bytealg.IndexByteString", "internal/bytealg.IndexString"], unfollowed := true, recurses := true, named := ["unicode/utf8.first", "unicode/utf8.acceptRanges", "internal/bytealg.MaxLen"], plainKeys := false, apart := false, laid := [("unicode/utf8.acceptRanges", laid_unicode_utf8_acceptRanges), ("unicode/utf8.first", laid_unicode_utf8_first)] }
def FnExactIsOwnBackSaid : Prop := fnExactIsOwnBackRow.holds Tryd.pinned (OpenSpec.ofChange fnExactIsOwnBackSpec)

/-- ITS FALSE NEIGHBOUR: 'it returns false'. Refute it at one input. -/
def fnExactIsOwnBackWrong : ChangeSpec := { name := "fnExactIsOwnBack", fn := fun _ => fun
  | [d] => { results := [.lit (.bool false)], args := [d] }
  | _ => none }
def FnExactIsOwnBackWrongFalsely : Prop := fnExactIsOwnBackRow.holds Tryd.pinned (OpenSpec.ofChange fnExactIsOwnBackWrong)

/-- 'laws.FnExactAreOneClass': WHATEVER THE INPUT: true; the input reads as it did. -/
def fnExactAreOneClassSpec : ChangeSpec := { name := "fnExactAreOneClass", fn := fun _ => fun
  | [d1, d2] => { results := [.lit (.bool true)], args := [d1, d2] }
  | _ => none }
def fnExactAreOneClassRow : OpenClaim := { program := "ytoenkgenoloihaadoor", sum := "756f2808d3d9ca35fa4cff4bfe7c981da1f86e094b1000f0ee7e6f6091b2097e", func := "loop.example/g01217/laws.FnExactAreOneClass", spec := "fnExactAreOneClass", inPlace := ["internal/bytealg.IndexByteString", "internal/bytealg.IndexString", "internal/bytealg.Compare"], unfollowed := true, recurses := true, named := ["unicode/utf8.first", "unicode/utf8.acceptRanges", "internal/bytealg.MaxLen"], plainKeys := false, apart := false, laid := [("unicode/utf8.acceptRanges", laid_unicode_utf8_acceptRanges), ("unicode/utf8.first", laid_unicode_utf8_first)] }
def FnExactAreOneClassSaid : Prop := fnExactAreOneClassRow.holds Tryd.pinned (OpenSpec.ofChange fnExactAreOneClassSpec)

/-- ITS FALSE NEIGHBOUR: 'it returns false'. Refute it at one input. -/
def fnExactAreOneClassWrong : ChangeSpec := { name := "fnExactAreOneClass", fn := fun _ => fun
  | [d1, d2] => { results := [.lit (.bool false)], args := [d1, d2] }
  | _ => none }
def FnExactAreOneClassWrongFalsely : Prop := fnExactAreOneClassRow.holds Tryd.pinned (OpenSpec.ofChange fnExactAreOneClassWrong)

/-- 'laws.FnExactAllClasses': WHATEVER THE INPUT: true; the input reads as it did. -/
def fnExactAllClassesSpec : ChangeSpec := { name := "fnExactAllClasses", fn := fun _ => fun
  | [d] => { results := [.lit (.bool true)], args := [d] }
  | _ => none }
def fnExactAllClassesRow : OpenClaim := { program := "ytoenkgenoloihaadoor", sum := "756f2808d3d9ca35fa4cff4bfe7c981da1f86e094b1000f0ee7e6f6091b2097e", func := "loop.example/g01217/laws.FnExactAllClasses", spec := "fnExactAllClasses", inPlace := ["internal/bytealg.IndexByteString", "internal/bytealg.IndexString", "internal/bytealg.Compare"], unfollowed := true, recurses := true, named := ["unicode/utf8.first", "unicode/utf8.acceptRanges", "internal/bytealg.MaxLen"], plainKeys := false, apart := false, laid := [("unicode/utf8.acceptRanges", laid_unicode_utf8_acceptRanges), ("unicode/utf8.first", laid_unicode_utf8_first)] }
def FnExactAllClassesSaid : Prop := fnExactAllClassesRow.holds Tryd.pinned (OpenSpec.ofChange fnExactAllClassesSpec)

/-- ITS FALSE NEIGHBOUR: 'it returns false'. Refute it at one input. -/
def fnExactAllClassesWrong : ChangeSpec := { name := "fnExactAllClasses", fn := fun _ => fun
  | [d] => { results := [.lit (.bool false)], args := [d] }
  | _ => none }
def FnExactAllClassesWrongFalsely : Prop := fnExactAllClassesRow.holds Tryd.pinned (OpenSpec.ofChange fnExactAllClassesWrong)

/-- 'laws.FnExactCountClasses': WHATEVER THE INPUT: true; the input reads as it did. -/
def fnExactCountClassesSpec : ChangeSpec := { name := "fnExactCountClasses", fn := fun _ => fun
  | [d] => { results := [.lit (.bool true)], args := [d] }
  | _ => none }
def fnExactCountClassesRow : OpenClaim := { program := "ytoenkgenoloihaadoor", sum := "756f2808d3d9ca35fa4cff4bfe7c981da1f86e094b1000f0ee7e6f6091b2097e", func := "loop.example/g01217/laws.FnExactCountClasses", spec := "fnExactCountClasses", inPlace := ["internal/bytealg.IndexByteString", "internal/bytealg.IndexString", "internal/bytealg.Compare"], unfollowed := true, recurses := true, named := ["unicode/utf8.first", "unicode/utf8.acceptRanges", "internal/bytealg.MaxLen"], plainKeys := false, apart := false, laid := [("unicode/utf8.acceptRanges", laid_unicode_utf8_acceptRanges), ("unicode/utf8.first", laid_unicode_utf8_first)] }
def FnExactCountClassesSaid : Prop := fnExactCountClassesRow.holds Tryd.pinned (OpenSpec.ofChange fnExactCountClassesSpec)

/-- ITS FALSE NEIGHBOUR: 'it returns false'. Refute it at one input. -/
def fnExactCountClassesWrong : ChangeSpec := { name := "fnExactCountClasses", fn := fun _ => fun
  | [d] => { results := [.lit (.bool false)], args := [d] }
  | _ => none }
def FnExactCountClassesWrongFalsely : Prop := fnExactCountClassesRow.holds Tryd.pinned (OpenSpec.ofChange fnExactCountClassesWrong)

/-- 'laws.FnExactSizesOfClasses': WHATEVER THE INPUT: true; the input reads as it did. -/
def fnExactSizesOfClassesSpec : ChangeSpec := { name := "fnExactSizesOfClasses", fn := fun _ => fun
  | [d] => { results := [.lit (.bool true)], args := [d] }
  | _ => none }
def fnExactSizesOfClassesRow : OpenClaim := { program := "ytoenkgenoloihaadoor", sum := "756f2808d3d9ca35fa4cff4bfe7c981da1f86e094b1000f0ee7e6f6091b2097e", func := "loop.example/g01217/laws.FnExactSizesOfClasses", spec := "fnExactSizesOfClasses", inPlace := ["internal/bytealg.IndexByteString", "internal/bytealg.IndexString", "internal/bytealg.Compare"], unfollowed := true, recurses := true, named := ["unicode/utf8.first", "unicode/utf8.acceptRanges", "internal/bytealg.MaxLen"], plainKeys := false, apart := false, laid := [("unicode/utf8.acceptRanges", laid_unicode_utf8_acceptRanges), ("unicode/utf8.first", laid_unicode_utf8_first)] }
def FnExactSizesOfClassesSaid : Prop := fnExactSizesOfClassesRow.holds Tryd.pinned (OpenSpec.ofChange fnExactSizesOfClassesSpec)

/-- ITS FALSE NEIGHBOUR: 'it returns false'. Refute it at one input. -/
def fnExactSizesOfClassesWrong : ChangeSpec := { name := "fnExactSizesOfClasses", fn := fun _ => fun
  | [d] => { results := [.lit (.bool false)], args := [d] }
  | _ => none }
def FnExactSizesOfClassesWrongFalsely : Prop := fnExactSizesOfClassesRow.holds Tryd.pinned (OpenSpec.ofChange fnExactSizesOfClassesWrong)

/-- 'laws.FnExactCountOwnMirror': WHATEVER THE INPUT: true; the input reads as it did. -/
def fnExactCountOwnMirrorSpec : ChangeSpec := { name := "fnExactCountOwnMirror", fn := fun _ => fun
  | [d] => { results := [.lit (.bool true)], args := [d] }
  | _ => none }
def fnExactCountOwnMirrorRow : OpenClaim := { program := "ytoenkgenoloihaadoor", sum := "756f2808d3d9ca35fa4cff4bfe7c981da1f86e094b1000f0ee7e6f6091b2097e", func := "loop.example/g01217/laws.FnExactCountOwnMirror", spec := "fnExactCountOwnMirror", inPlace := ["internal/bytealg.IndexByteString", "internal/bytealg.IndexString", "internal/bytealg.Compare"], unfollowed := true, recurses := true, named := ["unicode/utf8.first", "unicode/utf8.acceptRanges", "internal/bytealg.MaxLen"], plainKeys := false, apart := false, laid := [("unicode/utf8.acceptRanges", laid_unicode_utf8_acceptRanges), ("unicode/utf8.first", laid_unicode_utf8_first)] }
def FnExactCountOwnMirrorSaid : Prop := fnExactCountOwnMirrorRow.holds Tryd.pinned (OpenSpec.ofChange fnExactCountOwnMirrorSpec)

/-- ITS FALSE NEIGHBOUR: 'it returns false'. Refute it at one input. -/
def fnExactCountOwnMirrorWrong : ChangeSpec := { name := "fnExactCountOwnMirror", fn := fun _ => fun
  | [d] => { results := [.lit (.bool false)], args := [d] }
  | _ => none }
def FnExactCountOwnMirrorWrongFalsely : Prop := fnExactCountOwnMirrorRow.holds Tryd.pinned (OpenSpec.ofChange fnExactCountOwnMirrorWrong)

/-- 'laws.FnExactCountOwnBack': WHATEVER THE INPUT: true; the input reads as it did. -/
def fnExactCountOwnBackSpec : ChangeSpec := { name := "fnExactCountOwnBack", fn := fun _ => fun
  | [d] => { results := [.lit (.bool true)], args := [d] }
  | _ => none }
def fnExactCountOwnBackRow : OpenClaim := { program := "ytoenkgenoloihaadoor", sum := "756f2808d3d9ca35fa4cff4bfe7c981da1f86e094b1000f0ee7e6f6091b2097e", func := "loop.example/g01217/laws.FnExactCountOwnBack", spec := "fnExactCountOwnBack", inPlace := ["internal/bytealg.IndexByteString", "internal/bytealg.IndexString", "internal/bytealg.Compare"], unfollowed := true, recurses := true, named := ["unicode/utf8.first", "unicode/utf8.acceptRanges", "internal/bytealg.MaxLen"], plainKeys := false, apart := false, laid := [("unicode/utf8.acceptRanges", laid_unicode_utf8_acceptRanges), ("unicode/utf8.first", laid_unicode_utf8_first)] }
def FnExactCountOwnBackSaid : Prop := fnExactCountOwnBackRow.holds Tryd.pinned (OpenSpec.ofChange fnExactCountOwnBackSpec)

/-- ITS FALSE NEIGHBOUR: 'it returns false'. Refute it at one input. -/
def fnExactCountOwnBackWrong : ChangeSpec := { name := "fnExactCountOwnBack", fn := fun _ => fun
  | [d] => { results := [.lit (.bool false)], args := [d] }
  | _ => none }
def FnExactCountOwnBackWrongFalsely : Prop := fnExactCountOwnBackRow.holds Tryd.pinned (OpenSpec.ofChange fnExactCountOwnBackWrong)

/- THE SECOND FORM. 'bulk': how many values and letters a reading holds, each counted each time it is reached (what is shared counts as often as it is met; a slice's spare places count too). A statement '..UptoSaid' is the law's where the arguments, and the package variables that the reading takes, are together of bulk at most 1048576: NARROWER than '..Said'. Prove '..Said' where nothing that the law and all that it calls make is longer than what came in: it says more and counts as full. Else prove '..UptoSaid'. A law counts once. -/
mutual
def uptoBulk {H : Type} : DataW H → Nat
  | .lit (.string bytes) => bytes.length + 1
  | .lit _ => 1
  | .nil => 1
  | .ptr d => uptoBulk d + 1
  | .slice elems spare => uptoBulkAll elems + uptoBulkAll spare + 1
  | .agg parts => uptoBulkAll parts + 1
  | .iface _ d => uptoBulk d + 1
  | .map entries => uptoBulkEntries entries + 1
  | .held _ => 1
def uptoBulkAll {H : Type} : List (DataW H) → Nat
  | [] => 0
  | d :: r => uptoBulk d + uptoBulkAll r
def uptoBulkEntries {H : Type} : List (Lit × DataW H) → Nat
  | [] => 0
  | x :: r => uptoBulkEntry x + uptoBulkEntries r
def uptoBulkEntry {H : Type} : Lit × DataW H → Nat
  | (.string bytes, d) => bytes.length + uptoBulk d + 1
  | (_, d) => uptoBulk d + 1
 end
def uptoSmall : (H : Type) → List (DataW H) → Bool := fun _ ds => decide (uptoBulkAll ds ≤ 1048576)
def OpenSpec.upto (s : _root_.Go.ChangeSpec) : _root_.Go.OpenSpec := { _root_.Go.OpenSpec.ofChange s with cond := some uptoSmall }

/-- 'laws.FnExactLeastRing', WHERE WHAT IT READS IS OF BULK AT MOST 1048576: true; the input reads as it did. -/
def fnExactLeastRingUptoRow : OpenClaim := { program := "ytoenkgenoloihaadoor", sum := "756f2808d3d9ca35fa4cff4bfe7c981da1f86e094b1000f0ee7e6f6091b2097e", func := "loop.example/g01217/laws.FnExactLeastRing", spec := "fnExactLeastRing", inPlace := ["internal/bytealg.IndexByteString", "internal/bytealg.IndexString", "internal/bytealg.Compare"], unfollowed := true, recurses := true, named := ["unicode/utf8.first", "unicode/utf8.acceptRanges", "internal/bytealg.MaxLen"], plainKeys := false, apart := false, laid := [("unicode/utf8.acceptRanges", laid_unicode_utf8_acceptRanges), ("unicode/utf8.first", laid_unicode_utf8_first)], narrowed := true }
def FnExactLeastRingUptoSaid : Prop := fnExactLeastRingUptoRow.holds Tryd.pinned (OpenSpec.upto fnExactLeastRingSpec)

/-- 'laws.FnExactClassRing', WHERE WHAT IT READS IS OF BULK AT MOST 1048576: true; the input reads as it did. -/
def fnExactClassRingUptoRow : OpenClaim := { program := "ytoenkgenoloihaadoor", sum := "756f2808d3d9ca35fa4cff4bfe7c981da1f86e094b1000f0ee7e6f6091b2097e", func := "loop.example/g01217/laws.FnExactClassRing", spec := "fnExactClassRing", inPlace := ["internal/bytealg.IndexByteString", "internal/bytealg.IndexString", "internal/bytealg.Compare"], unfollowed := true, recurses := true, named := ["unicode/utf8.first", "unicode/utf8.acceptRanges", "internal/bytealg.MaxLen"], plainKeys := false, apart := false, laid := [("unicode/utf8.acceptRanges", laid_unicode_utf8_acceptRanges), ("unicode/utf8.first", laid_unicode_utf8_first)], narrowed := true }
def FnExactClassRingUptoSaid : Prop := fnExactClassRingUptoRow.holds Tryd.pinned (OpenSpec.upto fnExactClassRingSpec)

/-- 'laws.FnExactPeriodOfRing', WHERE WHAT IT READS IS OF BULK AT MOST 1048576: true; the input reads as it did. -/
def fnExactPeriodOfRingUptoRow : OpenClaim := { program := "ytoenkgenoloihaadoor", sum := "756f2808d3d9ca35fa4cff4bfe7c981da1f86e094b1000f0ee7e6f6091b2097e", func := "loop.example/g01217/laws.FnExactPeriodOfRing", spec := "fnExactPeriodOfRing", inPlace := ["internal/bytealg.IndexByteString", "internal/bytealg.IndexString"], unfollowed := true, recurses := true, named := ["unicode/utf8.first", "unicode/utf8.acceptRanges", "internal/bytealg.MaxLen"], plainKeys := false, apart := false, laid := [("unicode/utf8.acceptRanges", laid_unicode_utf8_acceptRanges), ("unicode/utf8.first", laid_unicode_utf8_first)], narrowed := true }
def FnExactPeriodOfRingUptoSaid : Prop := fnExactPeriodOfRingUptoRow.holds Tryd.pinned (OpenSpec.upto fnExactPeriodOfRingSpec)

/-- 'laws.FnExactCountVariants', WHERE WHAT IT READS IS OF BULK AT MOST 1048576: true; the input reads as it did. -/
def fnExactCountVariantsUptoRow : OpenClaim := { program := "ytoenkgenoloihaadoor", sum := "756f2808d3d9ca35fa4cff4bfe7c981da1f86e094b1000f0ee7e6f6091b2097e", func := "loop.example/g01217/laws.FnExactCountVariants", spec := "fnExactCountVariants", inPlace := ["internal/bytealg.IndexByteString", "internal/bytealg.IndexString", "internal/bytealg.Compare"], unfollowed := true, recurses := true, named := ["unicode/utf8.first", "unicode/utf8.acceptRanges", "internal/bytealg.MaxLen"], plainKeys := false, apart := false, laid := [("unicode/utf8.acceptRanges", laid_unicode_utf8_acceptRanges), ("unicode/utf8.first", laid_unicode_utf8_first)], narrowed := true }
def FnExactCountVariantsUptoSaid : Prop := fnExactCountVariantsUptoRow.holds Tryd.pinned (OpenSpec.upto fnExactCountVariantsSpec)

/-- 'laws.FnExactIsOwnMirror', WHERE WHAT IT READS IS OF BULK AT MOST 1048576: true; the input reads as it did. -/
def fnExactIsOwnMirrorUptoRow : OpenClaim := { program := "ytoenkgenoloihaadoor", sum := "756f2808d3d9ca35fa4cff4bfe7c981da1f86e094b1000f0ee7e6f6091b2097e", func := "loop.example/g01217/laws.FnExactIsOwnMirror", spec := "fnExactIsOwnMirror", inPlace := ["internal/bytealg.IndexByteString", "internal/bytealg.IndexString"], unfollowed := true, recurses := true, named := ["unicode/utf8.first", "unicode/utf8.acceptRanges", "internal/bytealg.MaxLen"], plainKeys := false, apart := false, laid := [("unicode/utf8.acceptRanges", laid_unicode_utf8_acceptRanges), ("unicode/utf8.first", laid_unicode_utf8_first)], narrowed := true }
def FnExactIsOwnMirrorUptoSaid : Prop := fnExactIsOwnMirrorUptoRow.holds Tryd.pinned (OpenSpec.upto fnExactIsOwnMirrorSpec)

/-- 'laws.FnExactIsOwnBack', WHERE WHAT IT READS IS OF BULK AT MOST 1048576: true; the input reads as it did. -/
def fnExactIsOwnBackUptoRow : OpenClaim := { program := "ytoenkgenoloihaadoor", sum := "756f2808d3d9ca35fa4cff4bfe7c981da1f86e094b1000f0ee7e6f6091b2097e", func := "loop.example/g01217/laws.FnExactIsOwnBack", spec := "fnExactIsOwnBack", inPlace := ["internal/bytealg.IndexByteString", "internal/bytealg.IndexString"], unfollowed := true, recurses := true, named := ["unicode/utf8.first", "unicode/utf8.acceptRanges", "internal/bytealg.MaxLen"], plainKeys := false, apart := false, laid := [("unicode/utf8.acceptRanges", laid_unicode_utf8_acceptRanges), ("unicode/utf8.first", laid_unicode_utf8_first)], narrowed := true }
def FnExactIsOwnBackUptoSaid : Prop := fnExactIsOwnBackUptoRow.holds Tryd.pinned (OpenSpec.upto fnExactIsOwnBackSpec)

/-- 'laws.FnExactAreOneClass', WHERE WHAT IT READS IS OF BULK AT MOST 1048576: true; the input reads as it did. -/
def fnExactAreOneClassUptoRow : OpenClaim := { program := "ytoenkgenoloihaadoor", sum := "756f2808d3d9ca35fa4cff4bfe7c981da1f86e094b1000f0ee7e6f6091b2097e", func := "loop.example/g01217/laws.FnExactAreOneClass", spec := "fnExactAreOneClass", inPlace := ["internal/bytealg.IndexByteString", "internal/bytealg.IndexString", "internal/bytealg.Compare"], unfollowed := true, recurses := true, named := ["unicode/utf8.first", "unicode/utf8.acceptRanges", "internal/bytealg.MaxLen"], plainKeys := false, apart := false, laid := [("unicode/utf8.acceptRanges", laid_unicode_utf8_acceptRanges), ("unicode/utf8.first", laid_unicode_utf8_first)], narrowed := true }
def FnExactAreOneClassUptoSaid : Prop := fnExactAreOneClassUptoRow.holds Tryd.pinned (OpenSpec.upto fnExactAreOneClassSpec)

/-- 'laws.FnExactAllClasses', WHERE WHAT IT READS IS OF BULK AT MOST 1048576: true; the input reads as it did. -/
def fnExactAllClassesUptoRow : OpenClaim := { program := "ytoenkgenoloihaadoor", sum := "756f2808d3d9ca35fa4cff4bfe7c981da1f86e094b1000f0ee7e6f6091b2097e", func := "loop.example/g01217/laws.FnExactAllClasses", spec := "fnExactAllClasses", inPlace := ["internal/bytealg.IndexByteString", "internal/bytealg.IndexString", "internal/bytealg.Compare"], unfollowed := true, recurses := true, named := ["unicode/utf8.first", "unicode/utf8.acceptRanges", "internal/bytealg.MaxLen"], plainKeys := false, apart := false, laid := [("unicode/utf8.acceptRanges", laid_unicode_utf8_acceptRanges), ("unicode/utf8.first", laid_unicode_utf8_first)], narrowed := true }
def FnExactAllClassesUptoSaid : Prop := fnExactAllClassesUptoRow.holds Tryd.pinned (OpenSpec.upto fnExactAllClassesSpec)

/-- 'laws.FnExactCountClasses', WHERE WHAT IT READS IS OF BULK AT MOST 1048576: true; the input reads as it did. -/
def fnExactCountClassesUptoRow : OpenClaim := { program := "ytoenkgenoloihaadoor", sum := "756f2808d3d9ca35fa4cff4bfe7c981da1f86e094b1000f0ee7e6f6091b2097e", func := "loop.example/g01217/laws.FnExactCountClasses", spec := "fnExactCountClasses", inPlace := ["internal/bytealg.IndexByteString", "internal/bytealg.IndexString", "internal/bytealg.Compare"], unfollowed := true, recurses := true, named := ["unicode/utf8.first", "unicode/utf8.acceptRanges", "internal/bytealg.MaxLen"], plainKeys := false, apart := false, laid := [("unicode/utf8.acceptRanges", laid_unicode_utf8_acceptRanges), ("unicode/utf8.first", laid_unicode_utf8_first)], narrowed := true }
def FnExactCountClassesUptoSaid : Prop := fnExactCountClassesUptoRow.holds Tryd.pinned (OpenSpec.upto fnExactCountClassesSpec)

/-- 'laws.FnExactSizesOfClasses', WHERE WHAT IT READS IS OF BULK AT MOST 1048576: true; the input reads as it did. -/
def fnExactSizesOfClassesUptoRow : OpenClaim := { program := "ytoenkgenoloihaadoor", sum := "756f2808d3d9ca35fa4cff4bfe7c981da1f86e094b1000f0ee7e6f6091b2097e", func := "loop.example/g01217/laws.FnExactSizesOfClasses", spec := "fnExactSizesOfClasses", inPlace := ["internal/bytealg.IndexByteString", "internal/bytealg.IndexString", "internal/bytealg.Compare"], unfollowed := true, recurses := true, named := ["unicode/utf8.first", "unicode/utf8.acceptRanges", "internal/bytealg.MaxLen"], plainKeys := false, apart := false, laid := [("unicode/utf8.acceptRanges", laid_unicode_utf8_acceptRanges), ("unicode/utf8.first", laid_unicode_utf8_first)], narrowed := true }
def FnExactSizesOfClassesUptoSaid : Prop := fnExactSizesOfClassesUptoRow.holds Tryd.pinned (OpenSpec.upto fnExactSizesOfClassesSpec)

/-- 'laws.FnExactCountOwnMirror', WHERE WHAT IT READS IS OF BULK AT MOST 1048576: true; the input reads as it did. -/
def fnExactCountOwnMirrorUptoRow : OpenClaim := { program := "ytoenkgenoloihaadoor", sum := "756f2808d3d9ca35fa4cff4bfe7c981da1f86e094b1000f0ee7e6f6091b2097e", func := "loop.example/g01217/laws.FnExactCountOwnMirror", spec := "fnExactCountOwnMirror", inPlace := ["internal/bytealg.IndexByteString", "internal/bytealg.IndexString", "internal/bytealg.Compare"], unfollowed := true, recurses := true, named := ["unicode/utf8.first", "unicode/utf8.acceptRanges", "internal/bytealg.MaxLen"], plainKeys := false, apart := false, laid := [("unicode/utf8.acceptRanges", laid_unicode_utf8_acceptRanges), ("unicode/utf8.first", laid_unicode_utf8_first)], narrowed := true }
def FnExactCountOwnMirrorUptoSaid : Prop := fnExactCountOwnMirrorUptoRow.holds Tryd.pinned (OpenSpec.upto fnExactCountOwnMirrorSpec)

/-- 'laws.FnExactCountOwnBack', WHERE WHAT IT READS IS OF BULK AT MOST 1048576: true; the input reads as it did. -/
def fnExactCountOwnBackUptoRow : OpenClaim := { program := "ytoenkgenoloihaadoor", sum := "756f2808d3d9ca35fa4cff4bfe7c981da1f86e094b1000f0ee7e6f6091b2097e", func := "loop.example/g01217/laws.FnExactCountOwnBack", spec := "fnExactCountOwnBack", inPlace := ["internal/bytealg.IndexByteString", "internal/bytealg.IndexString", "internal/bytealg.Compare"], unfollowed := true, recurses := true, named := ["unicode/utf8.first", "unicode/utf8.acceptRanges", "internal/bytealg.MaxLen"], plainKeys := false, apart := false, laid := [("unicode/utf8.acceptRanges", laid_unicode_utf8_acceptRanges), ("unicode/utf8.first", laid_unicode_utf8_first)], narrowed := true }
def FnExactCountOwnBackUptoSaid : Prop := fnExactCountOwnBackUptoRow.holds Tryd.pinned (OpenSpec.upto fnExactCountOwnBackSpec)

end Rows
end Go.Proofs.YtoenkgenoloihaaDoor
