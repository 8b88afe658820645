/-
  DERIVED. GIVEN WITH THE SEED: THE CARDS: each row of YtfnfolpdbbnnlaaDoorRows.lean that lists a variable, with what it lists TIED to the program's text (the seventh form; the later family's looks); each row that meets fmt, with fmt's text TOLD by the authors' own Lean function (tested against real Go, not proved from fmt's source: count such statements apart). THE CARD IS WHAT COUNTS. Prove the row's statement (the work); the ties are given (YtfnfolpdbbnnlaaDoorTie.lean); close each card by the builder's one call (the guide's Derived/Test/ToyasCard.lean, 'card_holds'). Laid BY PROGRAM, IN A SANDBOX (cutbox-door.mjs). By AI agents, Wed Nov 11 2026. No macro, syntax, notation, axiom, sorry.
-/
import Derived.Test.YtfnfolpdbbnnlaaDoorRows
import GoSem.ClaimSeven
namespace Go.Proofs.YtfnfolpdbbnnlaaDoor
namespace Rows

/-- THE TIED CARD OF 'manciplelaw02.RatioTexts'. -/
def ratioTextsCard : Claim7 := { stood := { row := ratioTextsRow, standIns := [], harness := (true, "2646bce25a113541bb4455cd4eb4ea007e82c0b372118e74e6cd8f1013443f64"), looks := true }, kinds := [], alts := [], laidByText := true, laidKinds := [.data, .data, .data, .sentinel, .sentinel], laidTests := true, laidLooks := .later }
def RatioTextsCardSaid : Prop := Claim7.holds Tryd.pinned (.plain (OpenSpec.ofChange ratioTextsSpec)) ratioTextsCard

/-- THE TIED CARD OF 'manciplelaw03.QuantSums'. -/
def quantSumsCard : Claim7 := { stood := { row := quantSumsRow, standIns := [], harness := (true, "2646bce25a113541bb4455cd4eb4ea007e82c0b372118e74e6cd8f1013443f64"), looks := true }, kinds := [], alts := [], laidByText := true, laidKinds := [.data, .data, .data, .data, .pinned], laidTests := true, laidLooks := .later }
def QuantSumsCardSaid : Prop := Claim7.holds Tryd.pinned (.plain (OpenSpec.ofChange quantSumsSpec)) quantSumsCard

/-- THE TIED CARD OF 'manciplelaw03.QuantTexts'. -/
def quantTextsCard : Claim7 := { stood := { row := quantTextsRow, standIns := [], harness := (true, "2646bce25a113541bb4455cd4eb4ea007e82c0b372118e74e6cd8f1013443f64"), looks := true }, kinds := [], alts := [], laidByText := true, laidKinds := [.data, .data, .data, .data, .pinned], laidTests := true, laidLooks := .later }
def QuantTextsCardSaid : Prop := Claim7.holds Tryd.pinned (.plain (OpenSpec.ofChange quantTextsSpec)) quantTextsCard

/-- THE TIED CARD OF 'manciplelaw03.QuantBack'. -/
def quantBackCard : Claim7 := { stood := { row := quantBackRow, standIns := [], harness := (true, "2646bce25a113541bb4455cd4eb4ea007e82c0b372118e74e6cd8f1013443f64"), looks := true }, kinds := [], alts := [], laidByText := true, laidKinds := [.data, .data, .data, .data, .pinned], laidTests := true, laidLooks := .later }
def QuantBackCardSaid : Prop := Claim7.holds Tryd.pinned (.plain (OpenSpec.ofChange quantBackSpec)) quantBackCard

/-- THE TIED CARD OF 'manciplelaw04.SlotOrders'. -/
def slotOrdersCard : Claim7 := { stood := { row := slotOrdersRow, standIns := [], harness := (true, "2646bce25a113541bb4455cd4eb4ea007e82c0b372118e74e6cd8f1013443f64"), looks := true }, kinds := [], alts := [], laidByText := true, laidKinds := [.data, .data, .data, .data], laidTests := true, laidLooks := .later }
def SlotOrdersCardSaid : Prop := Claim7.holds Tryd.pinned (.plain (OpenSpec.ofChange slotOrdersSpec)) slotOrdersCard

/-- THE TIED CARD OF 'manciplelaw04.SlotTexts'. -/
def slotTextsCard : Claim7 := { stood := { row := slotTextsRow, standIns := [], harness := (true, "2646bce25a113541bb4455cd4eb4ea007e82c0b372118e74e6cd8f1013443f64"), looks := true }, kinds := [], alts := [], laidByText := true, laidKinds := [.data, .data, .data, .sentinel, .sentinel, .data], laidTests := true, laidLooks := .later }
def SlotTextsCardSaid : Prop := Claim7.holds Tryd.pinned (.plain (OpenSpec.ofChange slotTextsSpec)) slotTextsCard

/-- THE TIED CARD OF 'manciplelaw04.SlotPacks'. -/
def slotPacksCard : Claim7 := { stood := { row := slotPacksRow, standIns := [], harness := (true, "2646bce25a113541bb4455cd4eb4ea007e82c0b372118e74e6cd8f1013443f64"), looks := true }, kinds := [], alts := [], laidByText := true, laidKinds := [.data, .data, .data, .data], laidTests := true, laidLooks := .later }
def SlotPacksCardSaid : Prop := Claim7.holds Tryd.pinned (.plain (OpenSpec.ofChange slotPacksSpec)) slotPacksCard

/-- THE TIED CARD OF 'manciplelaw07.ShareCmps'. -/
def shareCmpsCard : Claim7 := { stood := { row := shareCmpsRow, standIns := [], harness := (true, "2646bce25a113541bb4455cd4eb4ea007e82c0b372118e74e6cd8f1013443f64"), looks := true }, kinds := [], alts := [], laidByText := true, laidKinds := [.data, .data, .data], laidTests := true, laidLooks := .later }
def ShareCmpsCardSaid : Prop := Claim7.holds Tryd.pinned (.plain (OpenSpec.ofChange shareCmpsSpec)) shareCmpsCard

/-- THE TIED CARD OF 'manciplelaw07.ShareOf'. -/
def shareOfCard : Claim7 := { stood := { row := shareOfRow, standIns := [], harness := (true, "2646bce25a113541bb4455cd4eb4ea007e82c0b372118e74e6cd8f1013443f64"), looks := true }, kinds := [], alts := [], laidByText := true, laidKinds := [.data, .data, .data], laidTests := true, laidLooks := .later }
def ShareOfCardSaid : Prop := Claim7.holds Tryd.pinned (.plain (OpenSpec.ofChange shareOfSpec)) shareOfCard

/-- THE TIED CARD OF 'manciplelaw07.ShareOrders'. -/
def shareOrdersCard : Claim7 := { stood := { row := shareOrdersRow, standIns := [], harness := (true, "2646bce25a113541bb4455cd4eb4ea007e82c0b372118e74e6cd8f1013443f64"), looks := true }, kinds := [], alts := [], laidByText := true, laidKinds := [.data, .data, .data], laidTests := true, laidLooks := .later }
def ShareOrdersCardSaid : Prop := Claim7.holds Tryd.pinned (.plain (OpenSpec.ofChange shareOrdersSpec)) shareOrdersCard

/-- THE TIED CARD OF 'manciplelaw07.ShareTexts'. -/
def shareTextsCard : Claim7 := { stood := { row := shareTextsRow, standIns := [], harness := (true, "2646bce25a113541bb4455cd4eb4ea007e82c0b372118e74e6cd8f1013443f64"), looks := true }, kinds := [], alts := [], laidByText := true, laidKinds := [.data, .data, .data], laidTests := true, laidLooks := .later }
def ShareTextsCardSaid : Prop := Claim7.holds Tryd.pinned (.plain (OpenSpec.ofChange shareTextsSpec)) shareTextsCard

/-- THE SECOND FORM's CARD OF 'manciplelaw02.RatioTexts'. -/
def ratioTextsUptoCard : Claim7 := { stood := { row := ratioTextsUptoRow, standIns := [], harness := (true, "2646bce25a113541bb4455cd4eb4ea007e82c0b372118e74e6cd8f1013443f64"), looks := true }, kinds := [], alts := [], laidByText := true, laidKinds := [.data, .data, .data, .sentinel, .sentinel], laidTests := true, laidLooks := .later }
def RatioTextsUptoCardSaid : Prop := Claim7.holds Tryd.pinned (.plain (OpenSpec.upto ratioTextsSpec)) ratioTextsUptoCard

/-- THE SECOND FORM's CARD OF 'manciplelaw03.QuantSums'. -/
def quantSumsUptoCard : Claim7 := { stood := { row := quantSumsUptoRow, standIns := [], harness := (true, "2646bce25a113541bb4455cd4eb4ea007e82c0b372118e74e6cd8f1013443f64"), looks := true }, kinds := [], alts := [], laidByText := true, laidKinds := [.data, .data, .data, .data, .pinned], laidTests := true, laidLooks := .later }
def QuantSumsUptoCardSaid : Prop := Claim7.holds Tryd.pinned (.plain (OpenSpec.upto quantSumsSpec)) quantSumsUptoCard

/-- THE SECOND FORM's CARD OF 'manciplelaw03.QuantTexts'. -/
def quantTextsUptoCard : Claim7 := { stood := { row := quantTextsUptoRow, standIns := [], harness := (true, "2646bce25a113541bb4455cd4eb4ea007e82c0b372118e74e6cd8f1013443f64"), looks := true }, kinds := [], alts := [], laidByText := true, laidKinds := [.data, .data, .data, .data, .pinned], laidTests := true, laidLooks := .later }
def QuantTextsUptoCardSaid : Prop := Claim7.holds Tryd.pinned (.plain (OpenSpec.upto quantTextsSpec)) quantTextsUptoCard

/-- THE SECOND FORM's CARD OF 'manciplelaw03.QuantBack'. -/
def quantBackUptoCard : Claim7 := { stood := { row := quantBackUptoRow, standIns := [], harness := (true, "2646bce25a113541bb4455cd4eb4ea007e82c0b372118e74e6cd8f1013443f64"), looks := true }, kinds := [], alts := [], laidByText := true, laidKinds := [.data, .data, .data, .data, .pinned], laidTests := true, laidLooks := .later }
def QuantBackUptoCardSaid : Prop := Claim7.holds Tryd.pinned (.plain (OpenSpec.upto quantBackSpec)) quantBackUptoCard

/-- THE SECOND FORM's CARD OF 'manciplelaw04.SlotOrders'. -/
def slotOrdersUptoCard : Claim7 := { stood := { row := slotOrdersUptoRow, standIns := [], harness := (true, "2646bce25a113541bb4455cd4eb4ea007e82c0b372118e74e6cd8f1013443f64"), looks := true }, kinds := [], alts := [], laidByText := true, laidKinds := [.data, .data, .data, .data], laidTests := true, laidLooks := .later }
def SlotOrdersUptoCardSaid : Prop := Claim7.holds Tryd.pinned (.plain (OpenSpec.upto slotOrdersSpec)) slotOrdersUptoCard

/-- THE SECOND FORM's CARD OF 'manciplelaw04.SlotTexts'. -/
def slotTextsUptoCard : Claim7 := { stood := { row := slotTextsUptoRow, standIns := [], harness := (true, "2646bce25a113541bb4455cd4eb4ea007e82c0b372118e74e6cd8f1013443f64"), looks := true }, kinds := [], alts := [], laidByText := true, laidKinds := [.data, .data, .data, .sentinel, .sentinel, .data], laidTests := true, laidLooks := .later }
def SlotTextsUptoCardSaid : Prop := Claim7.holds Tryd.pinned (.plain (OpenSpec.upto slotTextsSpec)) slotTextsUptoCard

/-- THE SECOND FORM's CARD OF 'manciplelaw04.SlotPacks'. -/
def slotPacksUptoCard : Claim7 := { stood := { row := slotPacksUptoRow, standIns := [], harness := (true, "2646bce25a113541bb4455cd4eb4ea007e82c0b372118e74e6cd8f1013443f64"), looks := true }, kinds := [], alts := [], laidByText := true, laidKinds := [.data, .data, .data, .data], laidTests := true, laidLooks := .later }
def SlotPacksUptoCardSaid : Prop := Claim7.holds Tryd.pinned (.plain (OpenSpec.upto slotPacksSpec)) slotPacksUptoCard

/-- THE SECOND FORM's CARD OF 'manciplelaw07.ShareCmps'. -/
def shareCmpsUptoCard : Claim7 := { stood := { row := shareCmpsUptoRow, standIns := [], harness := (true, "2646bce25a113541bb4455cd4eb4ea007e82c0b372118e74e6cd8f1013443f64"), looks := true }, kinds := [], alts := [], laidByText := true, laidKinds := [.data, .data, .data], laidTests := true, laidLooks := .later }
def ShareCmpsUptoCardSaid : Prop := Claim7.holds Tryd.pinned (.plain (OpenSpec.upto shareCmpsSpec)) shareCmpsUptoCard

/-- THE SECOND FORM's CARD OF 'manciplelaw07.ShareOf'. -/
def shareOfUptoCard : Claim7 := { stood := { row := shareOfUptoRow, standIns := [], harness := (true, "2646bce25a113541bb4455cd4eb4ea007e82c0b372118e74e6cd8f1013443f64"), looks := true }, kinds := [], alts := [], laidByText := true, laidKinds := [.data, .data, .data], laidTests := true, laidLooks := .later }
def ShareOfUptoCardSaid : Prop := Claim7.holds Tryd.pinned (.plain (OpenSpec.upto shareOfSpec)) shareOfUptoCard

/-- THE SECOND FORM's CARD OF 'manciplelaw07.ShareOrders'. -/
def shareOrdersUptoCard : Claim7 := { stood := { row := shareOrdersUptoRow, standIns := [], harness := (true, "2646bce25a113541bb4455cd4eb4ea007e82c0b372118e74e6cd8f1013443f64"), looks := true }, kinds := [], alts := [], laidByText := true, laidKinds := [.data, .data, .data], laidTests := true, laidLooks := .later }
def ShareOrdersUptoCardSaid : Prop := Claim7.holds Tryd.pinned (.plain (OpenSpec.upto shareOrdersSpec)) shareOrdersUptoCard

/-- THE SECOND FORM's CARD OF 'manciplelaw07.ShareTexts'. -/
def shareTextsUptoCard : Claim7 := { stood := { row := shareTextsUptoRow, standIns := [], harness := (true, "2646bce25a113541bb4455cd4eb4ea007e82c0b372118e74e6cd8f1013443f64"), looks := true }, kinds := [], alts := [], laidByText := true, laidKinds := [.data, .data, .data], laidTests := true, laidLooks := .later }
def ShareTextsUptoCardSaid : Prop := Claim7.holds Tryd.pinned (.plain (OpenSpec.upto shareTextsSpec)) shareTextsUptoCard
end Rows
end Go.Proofs.YtfnfolpdbbnnlaaDoor
