/-
  NARROWER THAN 'FOR EVERY INPUT', by the rows' own cells (each row's printed sentence says how): DigestMixes: laid · DigestWrites: laid · DigestOf: laid · DigestParts: laid · DigestBlocks: laid · DigestSizes: laid.
  DERIVED. THE GIVEN ROWS OF THIS SEAT. 6 by the template 'for every input the law returns true; each argument reads behind the call as it read before'; 0 by the template 'total and deterministic' (their statements: YtfdpaiainlfigaaDoorTotals.lean).
  GIVEN WITH THE SEED: the statements are not yours to turn. If you find one false, say at which input.
  Laid BY PROGRAM, IN A SANDBOX (cutbox-rows.mjs): the forced cells as the released guide's own fill.sh prints them over the translation 79481348e6804be1… (all of the seat's roots in one cut). By AI agents, Wed Nov 11 2026. No macro, syntax, notation, axiom, sorry.
-/
import Derived.Test.YtfdpaiainlfigaaDoorChecked
import GoSem.Claim
import GoSem.ClaimJoined
import GoSem.ClaimMapViews
import Derived.JoinedTies
import Derived.KernelRfl
namespace Go.Proofs.YtfdpaiainlfigaaDoor
/- THE CELL 'sum', in the pinned program and in every row, IS THE sha256 OF THE DUMP (.gsa) THAT YtfdpaiainlfigaaDoorProg.lean LOADS. Nothing in Lean hashes anything: it is a label: what it is worth is what the hold of that sum in a sandbox is worth. -/
noncomputable def Tryd.pinned : Pinned := { name := "ytfdpaiainlfigaadoor", sum := "79481348e6804be1f08c1ba922e1c898c11606306a981d1067691572e2903e71", checked := Tryd.checked }
namespace Rows
def none {H : Type} : Left H := { results := [], args := [] }

/- WHAT THE LISTED PACKAGE-LEVEL VARIABLES READ AS WHEN THE CALL BEGINS. Each datum BY PROGRAM (the guide's laid-datum.mjs) off the statement by which the dump's own 'gosem.cut.vars' lays the variable. In a bare row this is a premise. The card (YtfdpaiainlfigaaDoorCards.lean) ties it to the program's text. -/
def laid_tidewrack_digest_initial {H : Type} : DataW H := .agg [.lit (.int .u32 1779033703), .lit (.int .u32 3144134277), .lit (.int .u32 1013904242), .lit (.int .u32 2773480762), .lit (.int .u32 1359893119), .lit (.int .u32 2600822924), .lit (.int .u32 528734635), .lit (.int .u32 1541459225)]
def laid_tidewrack_digest_orders {H : Type} : DataW H := .agg [.agg [.lit (.int .u8 0), .lit (.int .u8 1), .lit (.int .u8 2), .lit (.int .u8 3), .lit (.int .u8 4), .lit (.int .u8 5), .lit (.int .u8 6), .lit (.int .u8 7), .lit (.int .u8 8), .lit (.int .u8 9), .lit (.int .u8 10), .lit (.int .u8 11), .lit (.int .u8 12), .lit (.int .u8 13), .lit (.int .u8 14), .lit (.int .u8 15)], .agg [.lit (.int .u8 14), .lit (.int .u8 10), .lit (.int .u8 4), .lit (.int .u8 8), .lit (.int .u8 9), .lit (.int .u8 15), .lit (.int .u8 13), .lit (.int .u8 6), .lit (.int .u8 1), .lit (.int .u8 12), .lit (.int .u8 0), .lit (.int .u8 2), .lit (.int .u8 11), .lit (.int .u8 7), .lit (.int .u8 5), .lit (.int .u8 3)], .agg [.lit (.int .u8 11), .lit (.int .u8 8), .lit (.int .u8 12), .lit (.int .u8 0), .lit (.int .u8 5), .lit (.int .u8 2), .lit (.int .u8 15), .lit (.int .u8 13), .lit (.int .u8 10), .lit (.int .u8 14), .lit (.int .u8 3), .lit (.int .u8 6), .lit (.int .u8 7), .lit (.int .u8 1), .lit (.int .u8 9), .lit (.int .u8 4)], .agg [.lit (.int .u8 7), .lit (.int .u8 9), .lit (.int .u8 3), .lit (.int .u8 1), .lit (.int .u8 13), .lit (.int .u8 12), .lit (.int .u8 11), .lit (.int .u8 14), .lit (.int .u8 2), .lit (.int .u8 6), .lit (.int .u8 5), .lit (.int .u8 10), .lit (.int .u8 4), .lit (.int .u8 0), .lit (.int .u8 15), .lit (.int .u8 8)], .agg [.lit (.int .u8 9), .lit (.int .u8 0), .lit (.int .u8 5), .lit (.int .u8 7), .lit (.int .u8 2), .lit (.int .u8 4), .lit (.int .u8 10), .lit (.int .u8 15), .lit (.int .u8 14), .lit (.int .u8 1), .lit (.int .u8 11), .lit (.int .u8 12), .lit (.int .u8 6), .lit (.int .u8 8), .lit (.int .u8 3), .lit (.int .u8 13)], .agg [.lit (.int .u8 2), .lit (.int .u8 12), .lit (.int .u8 6), .lit (.int .u8 10), .lit (.int .u8 0), .lit (.int .u8 11), .lit (.int .u8 8), .lit (.int .u8 3), .lit (.int .u8 4), .lit (.int .u8 13), .lit (.int .u8 7), .lit (.int .u8 5), .lit (.int .u8 15), .lit (.int .u8 14), .lit (.int .u8 1), .lit (.int .u8 9)], .agg [.lit (.int .u8 12), .lit (.int .u8 5), .lit (.int .u8 1), .lit (.int .u8 15), .lit (.int .u8 14), .lit (.int .u8 13), .lit (.int .u8 4), .lit (.int .u8 10), .lit (.int .u8 0), .lit (.int .u8 7), .lit (.int .u8 6), .lit (.int .u8 3), .lit (.int .u8 9), .lit (.int .u8 2), .lit (.int .u8 8), .lit (.int .u8 11)], .agg [.lit (.int .u8 13), .lit (.int .u8 11), .lit (.int .u8 7), .lit (.int .u8 14), .lit (.int .u8 12), .lit (.int .u8 1), .lit (.int .u8 3), .lit (.int .u8 9), .lit (.int .u8 5), .lit (.int .u8 0), .lit (.int .u8 15), .lit (.int .u8 4), .lit (.int .u8 8), .lit (.int .u8 6), .lit (.int .u8 2), .lit (.int .u8 10)], .agg [.lit (.int .u8 6), .lit (.int .u8 15), .lit (.int .u8 14), .lit (.int .u8 9), .lit (.int .u8 11), .lit (.int .u8 3), .lit (.int .u8 0), .lit (.int .u8 8), .lit (.int .u8 12), .lit (.int .u8 2), .lit (.int .u8 13), .lit (.int .u8 7), .lit (.int .u8 1), .lit (.int .u8 4), .lit (.int .u8 10), .lit (.int .u8 5)], .agg [.lit (.int .u8 10), .lit (.int .u8 2), .lit (.int .u8 8), .lit (.int .u8 4), .lit (.int .u8 7), .lit (.int .u8 6), .lit (.int .u8 1), .lit (.int .u8 5), .lit (.int .u8 15), .lit (.int .u8 11), .lit (.int .u8 9), .lit (.int .u8 14), .lit (.int .u8 3), .lit (.int .u8 12), .lit (.int .u8 13), .lit (.int .u8 0)]]

/-- 'tidewracklaw03.DigestMixes': WHATEVER THE INPUT: true; the input reads as it did. -/
def digestMixesSpec : ChangeSpec := { name := "digestMixes", fn := fun _ => fun
  | [d1, d2, d3, d4] => { results := [.lit (.bool true)], args := [d1, d2, d3, d4] }
  | _ => none }
def digestMixesRow : OpenClaim := { program := "ytfdpaiainlfigaadoor", sum := "79481348e6804be1f08c1ba922e1c898c11606306a981d1067691572e2903e71", func := "tidewrack/tidewracklaw03.DigestMixes", spec := "digestMixes", unfollowed := true, recurses := true, named := ["tidewrack/digest.initial", "tidewrack/digest.orders"], apart := false, laid := [("tidewrack/digest.initial", laid_tidewrack_digest_initial), ("tidewrack/digest.orders", laid_tidewrack_digest_orders)] }
def DigestMixesSaid : Prop := digestMixesRow.holds Tryd.pinned (OpenSpec.ofChange digestMixesSpec)

/-- ITS FALSE NEIGHBOUR: 'it returns false'. Refute it at one input. -/
def digestMixesWrong : ChangeSpec := { name := "digestMixes", fn := fun _ => fun
  | [d1, d2, d3, d4] => { results := [.lit (.bool false)], args := [d1, d2, d3, d4] }
  | _ => none }
def DigestMixesWrongFalsely : Prop := digestMixesRow.holds Tryd.pinned (OpenSpec.ofChange digestMixesWrong)

/-- 'tidewracklaw03.DigestWrites': WHATEVER THE INPUT: true; the input reads as it did. -/
def digestWritesSpec : ChangeSpec := { name := "digestWrites", fn := fun _ => fun
  | [d1, d2] => { results := [.lit (.bool true)], args := [d1, d2] }
  | _ => none }
def digestWritesRow : OpenClaim := { program := "ytfdpaiainlfigaadoor", sum := "79481348e6804be1f08c1ba922e1c898c11606306a981d1067691572e2903e71", func := "tidewrack/tidewracklaw03.DigestWrites", spec := "digestWrites", unfollowed := true, recurses := true, named := ["tidewrack/digest.initial", "tidewrack/digest.orders"], apart := false, laid := [("tidewrack/digest.initial", laid_tidewrack_digest_initial), ("tidewrack/digest.orders", laid_tidewrack_digest_orders)] }
def DigestWritesSaid : Prop := digestWritesRow.holds Tryd.pinned (OpenSpec.ofChange digestWritesSpec)

/-- ITS FALSE NEIGHBOUR: 'it returns false'. Refute it at one input. -/
def digestWritesWrong : ChangeSpec := { name := "digestWrites", fn := fun _ => fun
  | [d1, d2] => { results := [.lit (.bool false)], args := [d1, d2] }
  | _ => none }
def DigestWritesWrongFalsely : Prop := digestWritesRow.holds Tryd.pinned (OpenSpec.ofChange digestWritesWrong)

/-- 'tidewracklaw03.DigestOf': WHATEVER THE INPUT: true; the input reads as it did. -/
def digestOfSpec : ChangeSpec := { name := "digestOf", fn := fun _ => fun
  | [d1, d2] => { results := [.lit (.bool true)], args := [d1, d2] }
  | _ => none }
def digestOfRow : OpenClaim := { program := "ytfdpaiainlfigaadoor", sum := "79481348e6804be1f08c1ba922e1c898c11606306a981d1067691572e2903e71", func := "tidewrack/tidewracklaw03.DigestOf", spec := "digestOf", unfollowed := true, recurses := true, named := ["tidewrack/digest.initial", "tidewrack/digest.orders"], apart := false, laid := [("tidewrack/digest.initial", laid_tidewrack_digest_initial), ("tidewrack/digest.orders", laid_tidewrack_digest_orders)] }
def DigestOfSaid : Prop := digestOfRow.holds Tryd.pinned (OpenSpec.ofChange digestOfSpec)

/-- ITS FALSE NEIGHBOUR: 'it returns false'. Refute it at one input. -/
def digestOfWrong : ChangeSpec := { name := "digestOf", fn := fun _ => fun
  | [d1, d2] => { results := [.lit (.bool false)], args := [d1, d2] }
  | _ => none }
def DigestOfWrongFalsely : Prop := digestOfRow.holds Tryd.pinned (OpenSpec.ofChange digestOfWrong)

/-- 'tidewracklaw03.DigestParts': WHATEVER THE INPUT: true; the input reads as it did. -/
def digestPartsSpec : ChangeSpec := { name := "digestParts", fn := fun _ => fun
  | [d1, d2, d3, d4, d5] => { results := [.lit (.bool true)], args := [d1, d2, d3, d4, d5] }
  | _ => none }
def digestPartsRow : OpenClaim := { program := "ytfdpaiainlfigaadoor", sum := "79481348e6804be1f08c1ba922e1c898c11606306a981d1067691572e2903e71", func := "tidewrack/tidewracklaw03.DigestParts", spec := "digestParts", unfollowed := true, recurses := true, named := ["tidewrack/digest.initial", "tidewrack/digest.orders"], apart := false, laid := [("tidewrack/digest.initial", laid_tidewrack_digest_initial), ("tidewrack/digest.orders", laid_tidewrack_digest_orders)] }
def DigestPartsSaid : Prop := digestPartsRow.holds Tryd.pinned (OpenSpec.ofChange digestPartsSpec)

/-- ITS FALSE NEIGHBOUR: 'it returns false'. Refute it at one input. -/
def digestPartsWrong : ChangeSpec := { name := "digestParts", fn := fun _ => fun
  | [d1, d2, d3, d4, d5] => { results := [.lit (.bool false)], args := [d1, d2, d3, d4, d5] }
  | _ => none }
def DigestPartsWrongFalsely : Prop := digestPartsRow.holds Tryd.pinned (OpenSpec.ofChange digestPartsWrong)

/-- 'tidewracklaw03.DigestBlocks': WHATEVER THE INPUT: true; the input reads as it did. -/
def digestBlocksSpec : ChangeSpec := { name := "digestBlocks", fn := fun _ => fun
  | [d1, d2] => { results := [.lit (.bool true)], args := [d1, d2] }
  | _ => none }
def digestBlocksRow : OpenClaim := { program := "ytfdpaiainlfigaadoor", sum := "79481348e6804be1f08c1ba922e1c898c11606306a981d1067691572e2903e71", func := "tidewrack/tidewracklaw03.DigestBlocks", spec := "digestBlocks", unfollowed := true, recurses := true, named := ["tidewrack/digest.initial", "tidewrack/digest.orders"], apart := false, laid := [("tidewrack/digest.initial", laid_tidewrack_digest_initial), ("tidewrack/digest.orders", laid_tidewrack_digest_orders)] }
def DigestBlocksSaid : Prop := digestBlocksRow.holds Tryd.pinned (OpenSpec.ofChange digestBlocksSpec)

/-- ITS FALSE NEIGHBOUR: 'it returns false'. Refute it at one input. -/
def digestBlocksWrong : ChangeSpec := { name := "digestBlocks", fn := fun _ => fun
  | [d1, d2] => { results := [.lit (.bool false)], args := [d1, d2] }
  | _ => none }
def DigestBlocksWrongFalsely : Prop := digestBlocksRow.holds Tryd.pinned (OpenSpec.ofChange digestBlocksWrong)

/-- 'tidewracklaw03.DigestSizes': WHATEVER THE INPUT: true; the input reads as it did. -/
def digestSizesSpec : ChangeSpec := { name := "digestSizes", fn := fun _ => fun
  | [d1, d2, d3] => { results := [.lit (.bool true)], args := [d1, d2, d3] }
  | _ => none }
def digestSizesRow : OpenClaim := { program := "ytfdpaiainlfigaadoor", sum := "79481348e6804be1f08c1ba922e1c898c11606306a981d1067691572e2903e71", func := "tidewrack/tidewracklaw03.DigestSizes", spec := "digestSizes", unfollowed := true, recurses := true, named := ["tidewrack/digest.initial", "tidewrack/digest.orders"], apart := false, laid := [("tidewrack/digest.initial", laid_tidewrack_digest_initial), ("tidewrack/digest.orders", laid_tidewrack_digest_orders)] }
def DigestSizesSaid : Prop := digestSizesRow.holds Tryd.pinned (OpenSpec.ofChange digestSizesSpec)

/-- ITS FALSE NEIGHBOUR: 'it returns false'. Refute it at one input. -/
def digestSizesWrong : ChangeSpec := { name := "digestSizes", fn := fun _ => fun
  | [d1, d2, d3] => { results := [.lit (.bool false)], args := [d1, d2, d3] }
  | _ => none }
def DigestSizesWrongFalsely : Prop := digestSizesRow.holds Tryd.pinned (OpenSpec.ofChange digestSizesWrong)

/- THE SECOND FORM. 'bulk': how many values and letters a reading holds, each counted each time it is reached (what is shared counts as often as it is met; a slice's spare places count too). A statement '..UptoSaid' is the law's where the arguments, and the package variables that the reading takes, are together of bulk at most 1048576: NARROWER than '..Said'. Prove '..Said' where nothing that the law and all that it calls make is longer than what came in: it says more and counts as full. Else prove '..UptoSaid'. A law counts once. -/
mutual
def uptoBulk {H : Type} : DataW H → Nat
  | .lit (.string bytes) => bytes.length + 1
  | .lit _ => 1
  | .nil => 1
  | .ptr d => uptoBulk d + 1
  | .slice elems spare => uptoBulkAll elems + uptoBulkAll spare + 1
  | .agg parts => uptoBulkAll parts + 1
  | .iface _ d => uptoBulk d + 1
  | .map entries => uptoBulkEntries entries + 1
  | .held _ => 1
def uptoBulkAll {H : Type} : List (DataW H) → Nat
  | [] => 0
  | d :: r => uptoBulk d + uptoBulkAll r
def uptoBulkEntries {H : Type} : List (Lit × DataW H) → Nat
  | [] => 0
  | x :: r => uptoBulkEntry x + uptoBulkEntries r
def uptoBulkEntry {H : Type} : Lit × DataW H → Nat
  | (.string bytes, d) => bytes.length + uptoBulk d + 1
  | (_, d) => uptoBulk d + 1
 end
def uptoSmall : (H : Type) → List (DataW H) → Bool := fun _ ds => decide (uptoBulkAll ds ≤ 1048576)
def OpenSpec.upto (s : _root_.Go.ChangeSpec) : _root_.Go.OpenSpec := { _root_.Go.OpenSpec.ofChange s with cond := some uptoSmall }

/-- 'tidewracklaw03.DigestMixes', WHERE WHAT IT READS IS OF BULK AT MOST 1048576: true; the input reads as it did. -/
def digestMixesUptoRow : OpenClaim := { program := "ytfdpaiainlfigaadoor", sum := "79481348e6804be1f08c1ba922e1c898c11606306a981d1067691572e2903e71", func := "tidewrack/tidewracklaw03.DigestMixes", spec := "digestMixes", unfollowed := true, recurses := true, named := ["tidewrack/digest.initial", "tidewrack/digest.orders"], apart := false, laid := [("tidewrack/digest.initial", laid_tidewrack_digest_initial), ("tidewrack/digest.orders", laid_tidewrack_digest_orders)], narrowed := true }
def DigestMixesUptoSaid : Prop := digestMixesUptoRow.holds Tryd.pinned (OpenSpec.upto digestMixesSpec)

/-- 'tidewracklaw03.DigestWrites', WHERE WHAT IT READS IS OF BULK AT MOST 1048576: true; the input reads as it did. -/
def digestWritesUptoRow : OpenClaim := { program := "ytfdpaiainlfigaadoor", sum := "79481348e6804be1f08c1ba922e1c898c11606306a981d1067691572e2903e71", func := "tidewrack/tidewracklaw03.DigestWrites", spec := "digestWrites", unfollowed := true, recurses := true, named := ["tidewrack/digest.initial", "tidewrack/digest.orders"], apart := false, laid := [("tidewrack/digest.initial", laid_tidewrack_digest_initial), ("tidewrack/digest.orders", laid_tidewrack_digest_orders)], narrowed := true }
def DigestWritesUptoSaid : Prop := digestWritesUptoRow.holds Tryd.pinned (OpenSpec.upto digestWritesSpec)

/-- 'tidewracklaw03.DigestOf', WHERE WHAT IT READS IS OF BULK AT MOST 1048576: true; the input reads as it did. -/
def digestOfUptoRow : OpenClaim := { program := "ytfdpaiainlfigaadoor", sum := "79481348e6804be1f08c1ba922e1c898c11606306a981d1067691572e2903e71", func := "tidewrack/tidewracklaw03.DigestOf", spec := "digestOf", unfollowed := true, recurses := true, named := ["tidewrack/digest.initial", "tidewrack/digest.orders"], apart := false, laid := [("tidewrack/digest.initial", laid_tidewrack_digest_initial), ("tidewrack/digest.orders", laid_tidewrack_digest_orders)], narrowed := true }
def DigestOfUptoSaid : Prop := digestOfUptoRow.holds Tryd.pinned (OpenSpec.upto digestOfSpec)

/-- 'tidewracklaw03.DigestParts', WHERE WHAT IT READS IS OF BULK AT MOST 1048576: true; the input reads as it did. -/
def digestPartsUptoRow : OpenClaim := { program := "ytfdpaiainlfigaadoor", sum := "79481348e6804be1f08c1ba922e1c898c11606306a981d1067691572e2903e71", func := "tidewrack/tidewracklaw03.DigestParts", spec := "digestParts", unfollowed := true, recurses := true, named := ["tidewrack/digest.initial", "tidewrack/digest.orders"], apart := false, laid := [("tidewrack/digest.initial", laid_tidewrack_digest_initial), ("tidewrack/digest.orders", laid_tidewrack_digest_orders)], narrowed := true }
def DigestPartsUptoSaid : Prop := digestPartsUptoRow.holds Tryd.pinned (OpenSpec.upto digestPartsSpec)

/-- 'tidewracklaw03.DigestBlocks', WHERE WHAT IT READS IS OF BULK AT MOST 1048576: true; the input reads as it did. -/
def digestBlocksUptoRow : OpenClaim := { program := "ytfdpaiainlfigaadoor", sum := "79481348e6804be1f08c1ba922e1c898c11606306a981d1067691572e2903e71", func := "tidewrack/tidewracklaw03.DigestBlocks", spec := "digestBlocks", unfollowed := true, recurses := true, named := ["tidewrack/digest.initial", "tidewrack/digest.orders"], apart := false, laid := [("tidewrack/digest.initial", laid_tidewrack_digest_initial), ("tidewrack/digest.orders", laid_tidewrack_digest_orders)], narrowed := true }
def DigestBlocksUptoSaid : Prop := digestBlocksUptoRow.holds Tryd.pinned (OpenSpec.upto digestBlocksSpec)

/-- 'tidewracklaw03.DigestSizes', WHERE WHAT IT READS IS OF BULK AT MOST 1048576: true; the input reads as it did. -/
def digestSizesUptoRow : OpenClaim := { program := "ytfdpaiainlfigaadoor", sum := "79481348e6804be1f08c1ba922e1c898c11606306a981d1067691572e2903e71", func := "tidewrack/tidewracklaw03.DigestSizes", spec := "digestSizes", unfollowed := true, recurses := true, named := ["tidewrack/digest.initial", "tidewrack/digest.orders"], apart := false, laid := [("tidewrack/digest.initial", laid_tidewrack_digest_initial), ("tidewrack/digest.orders", laid_tidewrack_digest_orders)], narrowed := true }
def DigestSizesUptoSaid : Prop := digestSizesUptoRow.holds Tryd.pinned (OpenSpec.upto digestSizesSpec)

end Rows
end Go.Proofs.YtfdpaiainlfigaaDoor
