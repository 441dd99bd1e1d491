/-
  DERIVED. GIVEN WITH THE SEED: THE CARDS: each row of YtoenkgenoloihaaDoorRows.lean that lists a variable, with what it lists TIED to the program's text (the seventh form; the later family's looks); each row that meets fmt, with fmt's text TOLD by the authors' own Lean function (tested against real Go, not proved from fmt's source: count such statements apart). THE CARD IS WHAT COUNTS. Prove the row's statement (the work); the ties are given (YtoenkgenoloihaaDoorTie.lean); close each card by the builder's one call (the guide's Derived/Test/ToyasCard.lean, 'card_holds'). Laid BY PROGRAM, IN A SANDBOX (cutbox-door.mjs). By AI agents, Wed Nov 11 2026. No macro, syntax, notation, axiom, sorry.
-/
import Derived.Test.YtoenkgenoloihaaDoorRows
import GoSem.ClaimSeven
namespace Go.Proofs.YtoenkgenoloihaaDoor
namespace Rows

/-- THE TIED CARD OF 'laws.FnExactLeastRing'. -/
def fnExactLeastRingCard : Claim7 := { stood := { row := fnExactLeastRingRow, standIns := [], harness := (true, "4da384613340de1db6b6d1093d503736e05deae785cb920629ac0c83d5959fb2"), looks := false }, kinds := [], alts := [], laidByText := true, laidKinds := [.data, .pinned], laidTests := true, laidLooks := .later }
def FnExactLeastRingCardSaid : Prop := Claim7.holds Tryd.pinned (.plain (OpenSpec.ofChange fnExactLeastRingSpec)) fnExactLeastRingCard

/-- THE TIED CARD OF 'laws.FnExactClassRing'. -/
def fnExactClassRingCard : Claim7 := { stood := { row := fnExactClassRingRow, standIns := [], harness := (true, "4da384613340de1db6b6d1093d503736e05deae785cb920629ac0c83d5959fb2"), looks := false }, kinds := [], alts := [], laidByText := true, laidKinds := [.data, .pinned], laidTests := true, laidLooks := .later }
def FnExactClassRingCardSaid : Prop := Claim7.holds Tryd.pinned (.plain (OpenSpec.ofChange fnExactClassRingSpec)) fnExactClassRingCard

/-- THE TIED CARD OF 'laws.FnExactPeriodOfRing'. -/
def fnExactPeriodOfRingCard : Claim7 := { stood := { row := fnExactPeriodOfRingRow, standIns := [], harness := (true, "4da384613340de1db6b6d1093d503736e05deae785cb920629ac0c83d5959fb2"), looks := false }, kinds := [], alts := [], laidByText := true, laidKinds := [.data, .pinned], laidTests := true, laidLooks := .later }
def FnExactPeriodOfRingCardSaid : Prop := Claim7.holds Tryd.pinned (.plain (OpenSpec.ofChange fnExactPeriodOfRingSpec)) fnExactPeriodOfRingCard

/-- THE TIED CARD OF 'laws.FnExactCountVariants'. -/
def fnExactCountVariantsCard : Claim7 := { stood := { row := fnExactCountVariantsRow, standIns := [], harness := (true, "4da384613340de1db6b6d1093d503736e05deae785cb920629ac0c83d5959fb2"), looks := false }, kinds := [], alts := [], laidByText := true, laidKinds := [.data, .pinned], laidTests := true, laidLooks := .later }
def FnExactCountVariantsCardSaid : Prop := Claim7.holds Tryd.pinned (.plain (OpenSpec.ofChange fnExactCountVariantsSpec)) fnExactCountVariantsCard

/-- THE TIED CARD OF 'laws.FnExactIsOwnMirror'. -/
def fnExactIsOwnMirrorCard : Claim7 := { stood := { row := fnExactIsOwnMirrorRow, standIns := [], harness := (true, "4da384613340de1db6b6d1093d503736e05deae785cb920629ac0c83d5959fb2"), looks := false }, kinds := [], alts := [], laidByText := true, laidKinds := [.data, .pinned], laidTests := true, laidLooks := .later }
def FnExactIsOwnMirrorCardSaid : Prop := Claim7.holds Tryd.pinned (.plain (OpenSpec.ofChange fnExactIsOwnMirrorSpec)) fnExactIsOwnMirrorCard

/-- THE TIED CARD OF 'laws.FnExactIsOwnBack'. -/
def fnExactIsOwnBackCard : Claim7 := { stood := { row := fnExactIsOwnBackRow, standIns := [], harness := (true, "4da384613340de1db6b6d1093d503736e05deae785cb920629ac0c83d5959fb2"), looks := false }, kinds := [], alts := [], laidByText := true, laidKinds := [.data, .pinned], laidTests := true, laidLooks := .later }
def FnExactIsOwnBackCardSaid : Prop := Claim7.holds Tryd.pinned (.plain (OpenSpec.ofChange fnExactIsOwnBackSpec)) fnExactIsOwnBackCard

/-- THE TIED CARD OF 'laws.FnExactAreOneClass'. -/
def fnExactAreOneClassCard : Claim7 := { stood := { row := fnExactAreOneClassRow, standIns := [], harness := (true, "4da384613340de1db6b6d1093d503736e05deae785cb920629ac0c83d5959fb2"), looks := false }, kinds := [], alts := [], laidByText := true, laidKinds := [.data, .pinned], laidTests := true, laidLooks := .later }
def FnExactAreOneClassCardSaid : Prop := Claim7.holds Tryd.pinned (.plain (OpenSpec.ofChange fnExactAreOneClassSpec)) fnExactAreOneClassCard

/-- THE TIED CARD OF 'laws.FnExactAllClasses'. -/
def fnExactAllClassesCard : Claim7 := { stood := { row := fnExactAllClassesRow, standIns := [], harness := (true, "4da384613340de1db6b6d1093d503736e05deae785cb920629ac0c83d5959fb2"), looks := false }, kinds := [], alts := [], laidByText := true, laidKinds := [.data, .pinned], laidTests := true, laidLooks := .later }
def FnExactAllClassesCardSaid : Prop := Claim7.holds Tryd.pinned (.plain (OpenSpec.ofChange fnExactAllClassesSpec)) fnExactAllClassesCard

/-- THE TIED CARD OF 'laws.FnExactCountClasses'. -/
def fnExactCountClassesCard : Claim7 := { stood := { row := fnExactCountClassesRow, standIns := [], harness := (true, "4da384613340de1db6b6d1093d503736e05deae785cb920629ac0c83d5959fb2"), looks := false }, kinds := [], alts := [], laidByText := true, laidKinds := [.data, .pinned], laidTests := true, laidLooks := .later }
def FnExactCountClassesCardSaid : Prop := Claim7.holds Tryd.pinned (.plain (OpenSpec.ofChange fnExactCountClassesSpec)) fnExactCountClassesCard

/-- THE TIED CARD OF 'laws.FnExactSizesOfClasses'. -/
def fnExactSizesOfClassesCard : Claim7 := { stood := { row := fnExactSizesOfClassesRow, standIns := [], harness := (true, "4da384613340de1db6b6d1093d503736e05deae785cb920629ac0c83d5959fb2"), looks := false }, kinds := [], alts := [], laidByText := true, laidKinds := [.data, .pinned], laidTests := true, laidLooks := .later }
def FnExactSizesOfClassesCardSaid : Prop := Claim7.holds Tryd.pinned (.plain (OpenSpec.ofChange fnExactSizesOfClassesSpec)) fnExactSizesOfClassesCard

/-- THE TIED CARD OF 'laws.FnExactCountOwnMirror'. -/
def fnExactCountOwnMirrorCard : Claim7 := { stood := { row := fnExactCountOwnMirrorRow, standIns := [], harness := (true, "4da384613340de1db6b6d1093d503736e05deae785cb920629ac0c83d5959fb2"), looks := false }, kinds := [], alts := [], laidByText := true, laidKinds := [.data, .pinned], laidTests := true, laidLooks := .later }
def FnExactCountOwnMirrorCardSaid : Prop := Claim7.holds Tryd.pinned (.plain (OpenSpec.ofChange fnExactCountOwnMirrorSpec)) fnExactCountOwnMirrorCard

/-- THE TIED CARD OF 'laws.FnExactCountOwnBack'. -/
def fnExactCountOwnBackCard : Claim7 := { stood := { row := fnExactCountOwnBackRow, standIns := [], harness := (true, "4da384613340de1db6b6d1093d503736e05deae785cb920629ac0c83d5959fb2"), looks := false }, kinds := [], alts := [], laidByText := true, laidKinds := [.data, .pinned], laidTests := true, laidLooks := .later }
def FnExactCountOwnBackCardSaid : Prop := Claim7.holds Tryd.pinned (.plain (OpenSpec.ofChange fnExactCountOwnBackSpec)) fnExactCountOwnBackCard

/-- THE SECOND FORM's CARD OF 'laws.FnExactLeastRing'. -/
def fnExactLeastRingUptoCard : Claim7 := { stood := { row := fnExactLeastRingUptoRow, standIns := [], harness := (true, "4da384613340de1db6b6d1093d503736e05deae785cb920629ac0c83d5959fb2"), looks := false }, kinds := [], alts := [], laidByText := true, laidKinds := [.data, .pinned], laidTests := true, laidLooks := .later }
def FnExactLeastRingUptoCardSaid : Prop := Claim7.holds Tryd.pinned (.plain (OpenSpec.upto fnExactLeastRingSpec)) fnExactLeastRingUptoCard

/-- THE SECOND FORM's CARD OF 'laws.FnExactClassRing'. -/
def fnExactClassRingUptoCard : Claim7 := { stood := { row := fnExactClassRingUptoRow, standIns := [], harness := (true, "4da384613340de1db6b6d1093d503736e05deae785cb920629ac0c83d5959fb2"), looks := false }, kinds := [], alts := [], laidByText := true, laidKinds := [.data, .pinned], laidTests := true, laidLooks := .later }
def FnExactClassRingUptoCardSaid : Prop := Claim7.holds Tryd.pinned (.plain (OpenSpec.upto fnExactClassRingSpec)) fnExactClassRingUptoCard

/-- THE SECOND FORM's CARD OF 'laws.FnExactPeriodOfRing'. -/
def fnExactPeriodOfRingUptoCard : Claim7 := { stood := { row := fnExactPeriodOfRingUptoRow, standIns := [], harness := (true, "4da384613340de1db6b6d1093d503736e05deae785cb920629ac0c83d5959fb2"), looks := false }, kinds := [], alts := [], laidByText := true, laidKinds := [.data, .pinned], laidTests := true, laidLooks := .later }
def FnExactPeriodOfRingUptoCardSaid : Prop := Claim7.holds Tryd.pinned (.plain (OpenSpec.upto fnExactPeriodOfRingSpec)) fnExactPeriodOfRingUptoCard

/-- THE SECOND FORM's CARD OF 'laws.FnExactCountVariants'. -/
def fnExactCountVariantsUptoCard : Claim7 := { stood := { row := fnExactCountVariantsUptoRow, standIns := [], harness := (true, "4da384613340de1db6b6d1093d503736e05deae785cb920629ac0c83d5959fb2"), looks := false }, kinds := [], alts := [], laidByText := true, laidKinds := [.data, .pinned], laidTests := true, laidLooks := .later }
def FnExactCountVariantsUptoCardSaid : Prop := Claim7.holds Tryd.pinned (.plain (OpenSpec.upto fnExactCountVariantsSpec)) fnExactCountVariantsUptoCard

/-- THE SECOND FORM's CARD OF 'laws.FnExactIsOwnMirror'. -/
def fnExactIsOwnMirrorUptoCard : Claim7 := { stood := { row := fnExactIsOwnMirrorUptoRow, standIns := [], harness := (true, "4da384613340de1db6b6d1093d503736e05deae785cb920629ac0c83d5959fb2"), looks := false }, kinds := [], alts := [], laidByText := true, laidKinds := [.data, .pinned], laidTests := true, laidLooks := .later }
def FnExactIsOwnMirrorUptoCardSaid : Prop := Claim7.holds Tryd.pinned (.plain (OpenSpec.upto fnExactIsOwnMirrorSpec)) fnExactIsOwnMirrorUptoCard

/-- THE SECOND FORM's CARD OF 'laws.FnExactIsOwnBack'. -/
def fnExactIsOwnBackUptoCard : Claim7 := { stood := { row := fnExactIsOwnBackUptoRow, standIns := [], harness := (true, "4da384613340de1db6b6d1093d503736e05deae785cb920629ac0c83d5959fb2"), looks := false }, kinds := [], alts := [], laidByText := true, laidKinds := [.data, .pinned], laidTests := true, laidLooks := .later }
def FnExactIsOwnBackUptoCardSaid : Prop := Claim7.holds Tryd.pinned (.plain (OpenSpec.upto fnExactIsOwnBackSpec)) fnExactIsOwnBackUptoCard

/-- THE SECOND FORM's CARD OF 'laws.FnExactAreOneClass'. -/
def fnExactAreOneClassUptoCard : Claim7 := { stood := { row := fnExactAreOneClassUptoRow, standIns := [], harness := (true, "4da384613340de1db6b6d1093d503736e05deae785cb920629ac0c83d5959fb2"), looks := false }, kinds := [], alts := [], laidByText := true, laidKinds := [.data, .pinned], laidTests := true, laidLooks := .later }
def FnExactAreOneClassUptoCardSaid : Prop := Claim7.holds Tryd.pinned (.plain (OpenSpec.upto fnExactAreOneClassSpec)) fnExactAreOneClassUptoCard

/-- THE SECOND FORM's CARD OF 'laws.FnExactAllClasses'. -/
def fnExactAllClassesUptoCard : Claim7 := { stood := { row := fnExactAllClassesUptoRow, standIns := [], harness := (true, "4da384613340de1db6b6d1093d503736e05deae785cb920629ac0c83d5959fb2"), looks := false }, kinds := [], alts := [], laidByText := true, laidKinds := [.data, .pinned], laidTests := true, laidLooks := .later }
def FnExactAllClassesUptoCardSaid : Prop := Claim7.holds Tryd.pinned (.plain (OpenSpec.upto fnExactAllClassesSpec)) fnExactAllClassesUptoCard

/-- THE SECOND FORM's CARD OF 'laws.FnExactCountClasses'. -/
def fnExactCountClassesUptoCard : Claim7 := { stood := { row := fnExactCountClassesUptoRow, standIns := [], harness := (true, "4da384613340de1db6b6d1093d503736e05deae785cb920629ac0c83d5959fb2"), looks := false }, kinds := [], alts := [], laidByText := true, laidKinds := [.data, .pinned], laidTests := true, laidLooks := .later }
def FnExactCountClassesUptoCardSaid : Prop := Claim7.holds Tryd.pinned (.plain (OpenSpec.upto fnExactCountClassesSpec)) fnExactCountClassesUptoCard

/-- THE SECOND FORM's CARD OF 'laws.FnExactSizesOfClasses'. -/
def fnExactSizesOfClassesUptoCard : Claim7 := { stood := { row := fnExactSizesOfClassesUptoRow, standIns := [], harness := (true, "4da384613340de1db6b6d1093d503736e05deae785cb920629ac0c83d5959fb2"), looks := false }, kinds := [], alts := [], laidByText := true, laidKinds := [.data, .pinned], laidTests := true, laidLooks := .later }
def FnExactSizesOfClassesUptoCardSaid : Prop := Claim7.holds Tryd.pinned (.plain (OpenSpec.upto fnExactSizesOfClassesSpec)) fnExactSizesOfClassesUptoCard

/-- THE SECOND FORM's CARD OF 'laws.FnExactCountOwnMirror'. -/
def fnExactCountOwnMirrorUptoCard : Claim7 := { stood := { row := fnExactCountOwnMirrorUptoRow, standIns := [], harness := (true, "4da384613340de1db6b6d1093d503736e05deae785cb920629ac0c83d5959fb2"), looks := false }, kinds := [], alts := [], laidByText := true, laidKinds := [.data, .pinned], laidTests := true, laidLooks := .later }
def FnExactCountOwnMirrorUptoCardSaid : Prop := Claim7.holds Tryd.pinned (.plain (OpenSpec.upto fnExactCountOwnMirrorSpec)) fnExactCountOwnMirrorUptoCard

/-- THE SECOND FORM's CARD OF 'laws.FnExactCountOwnBack'. -/
def fnExactCountOwnBackUptoCard : Claim7 := { stood := { row := fnExactCountOwnBackUptoRow, standIns := [], harness := (true, "4da384613340de1db6b6d1093d503736e05deae785cb920629ac0c83d5959fb2"), looks := false }, kinds := [], alts := [], laidByText := true, laidKinds := [.data, .pinned], laidTests := true, laidLooks := .later }
def FnExactCountOwnBackUptoCardSaid : Prop := Claim7.holds Tryd.pinned (.plain (OpenSpec.upto fnExactCountOwnBackSpec)) fnExactCountOwnBackUptoCard
end Rows
end Go.Proofs.YtoenkgenoloihaaDoor
