/-
  DERIVED. GIVEN WITH THE SEED: THE CARDS: each row of YthdclaljgimclaaDoorRows.lean that lists a variable, with what it lists TIED to the program's text (the seventh form; the later family's looks); each row that meets fmt, with fmt's text TOLD by the authors' own Lean function (tested against real Go, not proved from fmt's source: count such statements apart). THE CARD IS WHAT COUNTS. Prove the row's statement (the work); the ties are given (YthdclaljgimclaaDoorTie.lean); close each card by the builder's one call (the guide's Derived/Test/ToyasCard.lean, 'card_holds'). Laid BY PROGRAM, IN A SANDBOX (cutbox-door.mjs). By AI agents, Wed Nov 11 2026. No macro, syntax, notation, axiom, sorry.
-/
import Derived.Test.YthdclaljgimclaaDoorRows
import GoSem.ClaimSeven
namespace Go.Proofs.YthdclaljgimclaaDoor
namespace Rows

/-- THE TIED CARD OF 'laws.FnJobsText'. -/
def fnJobsTextCard : Claim7 := { stood := { row := fnJobsTextRow, standIns := [], harness := (true, "082607964e22e22bdf2d1c563a849e57b1717555e25960bd5130bbc17793cb7d"), looks := true }, kinds := [], alts := [], laidByText := true, laidKinds := [.data, .data, .data, .data, .sentinel, .sentinel, .pinned], laidTests := true, laidLooks := .later }
def FnJobsTextCardSaid : Prop := Claim7.holds Tryd.pinned (.plain (OpenSpec.ofChange fnJobsTextSpec)) fnJobsTextCard

/-- THE TIED CARD OF 'laws.FnNeedOf'. -/
def fnNeedOfCard : Claim7 := { stood := { row := fnNeedOfRow, standIns := [], harness := (true, "082607964e22e22bdf2d1c563a849e57b1717555e25960bd5130bbc17793cb7d"), looks := true }, kinds := [], alts := [], laidByText := true, laidKinds := [.data, .data, .data], laidTests := true, laidLooks := .later }
def FnNeedOfCardSaid : Prop := Claim7.holds Tryd.pinned (.plain (OpenSpec.ofChange fnNeedOfSpec)) fnNeedOfCard

/-- THE TIED CARD OF 'laws.FnNeedParts'. -/
def fnNeedPartsCard : Claim7 := { stood := { row := fnNeedPartsRow, standIns := [], harness := (true, "082607964e22e22bdf2d1c563a849e57b1717555e25960bd5130bbc17793cb7d"), looks := true }, kinds := [], alts := [], laidByText := true, laidKinds := [.data, .data, .data], laidTests := true, laidLooks := .later }
def FnNeedPartsCardSaid : Prop := Claim7.holds Tryd.pinned (.plain (OpenSpec.ofChange fnNeedPartsSpec)) fnNeedPartsCard

/-- THE TIED CARD OF 'laws.FnJobsSize'. -/
def fnJobsSizeCard : Claim7 := { stood := { row := fnJobsSizeRow, standIns := [], harness := (true, "082607964e22e22bdf2d1c563a849e57b1717555e25960bd5130bbc17793cb7d"), looks := true }, kinds := [], alts := [], laidByText := true, laidKinds := [.data, .data, .data], laidTests := true, laidLooks := .later }
def FnJobsSizeCardSaid : Prop := Claim7.holds Tryd.pinned (.plain (OpenSpec.ofChange fnJobsSizeSpec)) fnJobsSizeCard

/-- THE TIED CARD OF 'laws.FnWorstText'. -/
def fnWorstTextCard : Claim7 := { stood := { row := fnWorstTextRow, standIns := [], harness := (true, "082607964e22e22bdf2d1c563a849e57b1717555e25960bd5130bbc17793cb7d"), looks := true }, kinds := [], alts := [], laidByText := true, laidKinds := [.data, .data, .data, .data, .sentinel, .sentinel, .pinned], laidTests := true, laidLooks := .later }
def FnWorstTextCardSaid : Prop := Claim7.holds Tryd.pinned (.plain (OpenSpec.ofChange fnWorstTextSpec)) fnWorstTextCard

/-- THE TIED CARD OF 'laws.FnExactFormatJobs'. -/
def fnExactFormatJobsCard : Claim7 := { stood := { row := fnExactFormatJobsRow, standIns := [], harness := (true, "082607964e22e22bdf2d1c563a849e57b1717555e25960bd5130bbc17793cb7d"), looks := true }, kinds := [], alts := [], laidByText := true, laidKinds := [.data, .data, .data], laidTests := true, laidLooks := .later }
def FnExactFormatJobsCardSaid : Prop := Claim7.holds Tryd.pinned (.plain (OpenSpec.ofChange fnExactFormatJobsSpec)) fnExactFormatJobsCard

/-- THE TIED CARD OF 'laws.FnExactParseJobs'. -/
def fnExactParseJobsCard : Claim7 := { stood := { row := fnExactParseJobsRow, standIns := [], harness := (true, "082607964e22e22bdf2d1c563a849e57b1717555e25960bd5130bbc17793cb7d"), looks := true }, kinds := [], alts := [], laidByText := true, laidKinds := [.data, .data, .data, .data, .sentinel, .sentinel, .pinned], laidTests := true, laidLooks := .later }
def FnExactParseJobsCardSaid : Prop := Claim7.holds Tryd.pinned (.plain (OpenSpec.ofChange fnExactParseJobsSpec)) fnExactParseJobsCard

/-- THE SECOND FORM's CARD OF 'laws.FnJobsText'. -/
def fnJobsTextUptoCard : Claim7 := { stood := { row := fnJobsTextUptoRow, standIns := [], harness := (true, "082607964e22e22bdf2d1c563a849e57b1717555e25960bd5130bbc17793cb7d"), looks := true }, kinds := [], alts := [], laidByText := true, laidKinds := [.data, .data, .data, .data, .sentinel, .sentinel, .pinned], laidTests := true, laidLooks := .later }
def FnJobsTextUptoCardSaid : Prop := Claim7.holds Tryd.pinned (.plain (OpenSpec.upto fnJobsTextSpec)) fnJobsTextUptoCard

/-- THE SECOND FORM's CARD OF 'laws.FnNeedOf'. -/
def fnNeedOfUptoCard : Claim7 := { stood := { row := fnNeedOfUptoRow, standIns := [], harness := (true, "082607964e22e22bdf2d1c563a849e57b1717555e25960bd5130bbc17793cb7d"), looks := true }, kinds := [], alts := [], laidByText := true, laidKinds := [.data, .data, .data], laidTests := true, laidLooks := .later }
def FnNeedOfUptoCardSaid : Prop := Claim7.holds Tryd.pinned (.plain (OpenSpec.upto fnNeedOfSpec)) fnNeedOfUptoCard

/-- THE SECOND FORM's CARD OF 'laws.FnNeedParts'. -/
def fnNeedPartsUptoCard : Claim7 := { stood := { row := fnNeedPartsUptoRow, standIns := [], harness := (true, "082607964e22e22bdf2d1c563a849e57b1717555e25960bd5130bbc17793cb7d"), looks := true }, kinds := [], alts := [], laidByText := true, laidKinds := [.data, .data, .data], laidTests := true, laidLooks := .later }
def FnNeedPartsUptoCardSaid : Prop := Claim7.holds Tryd.pinned (.plain (OpenSpec.upto fnNeedPartsSpec)) fnNeedPartsUptoCard

/-- THE SECOND FORM's CARD OF 'laws.FnJobsSize'. -/
def fnJobsSizeUptoCard : Claim7 := { stood := { row := fnJobsSizeUptoRow, standIns := [], harness := (true, "082607964e22e22bdf2d1c563a849e57b1717555e25960bd5130bbc17793cb7d"), looks := true }, kinds := [], alts := [], laidByText := true, laidKinds := [.data, .data, .data], laidTests := true, laidLooks := .later }
def FnJobsSizeUptoCardSaid : Prop := Claim7.holds Tryd.pinned (.plain (OpenSpec.upto fnJobsSizeSpec)) fnJobsSizeUptoCard

/-- THE SECOND FORM's CARD OF 'laws.FnWorstText'. -/
def fnWorstTextUptoCard : Claim7 := { stood := { row := fnWorstTextUptoRow, standIns := [], harness := (true, "082607964e22e22bdf2d1c563a849e57b1717555e25960bd5130bbc17793cb7d"), looks := true }, kinds := [], alts := [], laidByText := true, laidKinds := [.data, .data, .data, .data, .sentinel, .sentinel, .pinned], laidTests := true, laidLooks := .later }
def FnWorstTextUptoCardSaid : Prop := Claim7.holds Tryd.pinned (.plain (OpenSpec.upto fnWorstTextSpec)) fnWorstTextUptoCard

/-- THE SECOND FORM's CARD OF 'laws.FnExactFormatJobs'. -/
def fnExactFormatJobsUptoCard : Claim7 := { stood := { row := fnExactFormatJobsUptoRow, standIns := [], harness := (true, "082607964e22e22bdf2d1c563a849e57b1717555e25960bd5130bbc17793cb7d"), looks := true }, kinds := [], alts := [], laidByText := true, laidKinds := [.data, .data, .data], laidTests := true, laidLooks := .later }
def FnExactFormatJobsUptoCardSaid : Prop := Claim7.holds Tryd.pinned (.plain (OpenSpec.upto fnExactFormatJobsSpec)) fnExactFormatJobsUptoCard

/-- THE SECOND FORM's CARD OF 'laws.FnExactParseJobs'. -/
def fnExactParseJobsUptoCard : Claim7 := { stood := { row := fnExactParseJobsUptoRow, standIns := [], harness := (true, "082607964e22e22bdf2d1c563a849e57b1717555e25960bd5130bbc17793cb7d"), looks := true }, kinds := [], alts := [], laidByText := true, laidKinds := [.data, .data, .data, .data, .sentinel, .sentinel, .pinned], laidTests := true, laidLooks := .later }
def FnExactParseJobsUptoCardSaid : Prop := Claim7.holds Tryd.pinned (.plain (OpenSpec.upto fnExactParseJobsSpec)) fnExactParseJobsUptoCard
end Rows
end Go.Proofs.YthdclaljgimclaaDoor
