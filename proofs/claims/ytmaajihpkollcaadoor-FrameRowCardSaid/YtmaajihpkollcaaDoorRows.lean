/-
  NARROWER THAN 'FOR EVERY INPUT', by the rows' own cells (each row's printed sentence says how): FrameChecks: laid · FrameTells: laid · FrameGoesOn: laid · FrameEnds: laid · FrameRow: laid · FrameSpoilt: laid.
  DERIVED. THE GIVEN ROWS OF THIS SEAT. 6 by the template 'for every input the law returns true; each argument reads behind the call as it read before'; 0 by the template 'total and deterministic' (their statements: YtmaajihpkollcaaDoorTotals.lean).
  GIVEN WITH THE SEED: the statements are not yours to turn. If you find one false, say at which input.
  Laid BY PROGRAM, IN A SANDBOX (cutbox-rows.mjs): the forced cells as the released guide's own fill.sh prints them over the translation a7d09d2740bd5d7e… (all of the seat's roots in one cut). By AI agents, Wed Nov 11 2026. No macro, syntax, notation, axiom, sorry.
-/
import Derived.Test.YtmaajihpkollcaaDoorChecked
import GoSem.Claim
import GoSem.ClaimJoined
import GoSem.ClaimMapViews
import Derived.JoinedTies
import Derived.KernelRfl
namespace Go.Proofs.YtmaajihpkollcaaDoor
/- THE CELL 'sum', in the pinned program and in every row, IS THE sha256 OF THE DUMP (.gsa) THAT YtmaajihpkollcaaDoorProg.lean LOADS. Nothing in Lean hashes anything: it is a label: what it is worth is what the hold of that sum in a sandbox is worth. -/
noncomputable def Tryd.pinned : Pinned := { name := "ytmaajihpkollcaadoor", sum := "a7d09d2740bd5d7ebb83a463a49fe90223d096265134c65d51ff2d5c9970178f", checked := Tryd.checked }
namespace Rows
def none {H : Type} : Left H := { results := [], args := [] }

/- WHAT THE LISTED PACKAGE-LEVEL VARIABLES READ AS WHEN THE CALL BEGINS. Each datum BY PROGRAM (the guide's laid-datum.mjs) off the statement by which the dump's own 'gosem.cut.vars' lays the variable. In a bare row this is a premise. The card (YtmaajihpkollcaaDoorCards.lean) ties it to the program's text. -/
def laid_tidewrack_frame_nibbles {H : Type} : DataW H := .agg [.lit (.int .u32 0), .lit (.int .u32 274646895), .lit (.int .u32 549293790), .lit (.int .u32 820201905), .lit (.int .u32 1098587580), .lit (.int .u32 1361435347), .lit (.int .u32 1640403810), .lit (.int .u32 1905808397), .lit (.int .u32 2197175160), .lit (.int .u32 2460548119), .lit (.int .u32 2722870694), .lit (.int .u32 2987750089), .lit (.int .u32 3280807620), .lit (.int .u32 3553878443), .lit (.int .u32 3811616794), .lit (.int .u32 4084100981)]

/-- 'tidewracklaw04.FrameChecks': WHATEVER THE INPUT: true; the input reads as it did. -/
def frameChecksSpec : ChangeSpec := { name := "frameChecks", fn := fun _ => fun
  | [d] => { results := [.lit (.bool true)], args := [d] }
  | _ => none }
def frameChecksRow : OpenClaim := { program := "ytmaajihpkollcaadoor", sum := "a7d09d2740bd5d7ebb83a463a49fe90223d096265134c65d51ff2d5c9970178f", func := "tidewrack/tidewracklaw04.FrameChecks", spec := "frameChecks", unfollowed := true, recurses := true, named := ["tidewrack/frame.nibbles"], apart := false, laid := [("tidewrack/frame.nibbles", laid_tidewrack_frame_nibbles)] }
def FrameChecksSaid : Prop := frameChecksRow.holds Tryd.pinned (OpenSpec.ofChange frameChecksSpec)

/-- ITS FALSE NEIGHBOUR: 'it returns false'. Refute it at one input. -/
def frameChecksWrong : ChangeSpec := { name := "frameChecks", fn := fun _ => fun
  | [d] => { results := [.lit (.bool false)], args := [d] }
  | _ => none }
def FrameChecksWrongFalsely : Prop := frameChecksRow.holds Tryd.pinned (OpenSpec.ofChange frameChecksWrong)

/-- 'tidewracklaw04.FrameTells': WHATEVER THE INPUT: true; the input reads as it did. -/
def frameTellsSpec : ChangeSpec := { name := "frameTells", fn := fun _ => fun
  | [d] => { results := [.lit (.bool true)], args := [d] }
  | _ => none }
def frameTellsRow : OpenClaim := { program := "ytmaajihpkollcaadoor", sum := "a7d09d2740bd5d7ebb83a463a49fe90223d096265134c65d51ff2d5c9970178f", func := "tidewrack/tidewracklaw04.FrameTells", spec := "frameTells", unfollowed := true, recurses := true, named := ["tidewrack/frame.nibbles"], apart := false, laid := [("tidewrack/frame.nibbles", laid_tidewrack_frame_nibbles)] }
def FrameTellsSaid : Prop := frameTellsRow.holds Tryd.pinned (OpenSpec.ofChange frameTellsSpec)

/-- ITS FALSE NEIGHBOUR: 'it returns false'. Refute it at one input. -/
def frameTellsWrong : ChangeSpec := { name := "frameTells", fn := fun _ => fun
  | [d] => { results := [.lit (.bool false)], args := [d] }
  | _ => none }
def FrameTellsWrongFalsely : Prop := frameTellsRow.holds Tryd.pinned (OpenSpec.ofChange frameTellsWrong)

/-- 'tidewracklaw04.FrameGoesOn': WHATEVER THE INPUT: true; the input reads as it did. -/
def frameGoesOnSpec : ChangeSpec := { name := "frameGoesOn", fn := fun _ => fun
  | [d1, d2, d3] => { results := [.lit (.bool true)], args := [d1, d2, d3] }
  | _ => none }
def frameGoesOnRow : OpenClaim := { program := "ytmaajihpkollcaadoor", sum := "a7d09d2740bd5d7ebb83a463a49fe90223d096265134c65d51ff2d5c9970178f", func := "tidewrack/tidewracklaw04.FrameGoesOn", spec := "frameGoesOn", unfollowed := true, recurses := true, named := ["tidewrack/frame.nibbles"], apart := false, laid := [("tidewrack/frame.nibbles", laid_tidewrack_frame_nibbles)] }
def FrameGoesOnSaid : Prop := frameGoesOnRow.holds Tryd.pinned (OpenSpec.ofChange frameGoesOnSpec)

/-- ITS FALSE NEIGHBOUR: 'it returns false'. Refute it at one input. -/
def frameGoesOnWrong : ChangeSpec := { name := "frameGoesOn", fn := fun _ => fun
  | [d1, d2, d3] => { results := [.lit (.bool false)], args := [d1, d2, d3] }
  | _ => none }
def FrameGoesOnWrongFalsely : Prop := frameGoesOnRow.holds Tryd.pinned (OpenSpec.ofChange frameGoesOnWrong)

/-- 'tidewracklaw04.FrameEnds': WHATEVER THE INPUT: true; the input reads as it did. -/
def frameEndsSpec : ChangeSpec := { name := "frameEnds", fn := fun _ => fun
  | [d1, d2, d3] => { results := [.lit (.bool true)], args := [d1, d2, d3] }
  | _ => none }
def frameEndsRow : OpenClaim := { program := "ytmaajihpkollcaadoor", sum := "a7d09d2740bd5d7ebb83a463a49fe90223d096265134c65d51ff2d5c9970178f", func := "tidewrack/tidewracklaw04.FrameEnds", spec := "frameEnds", unfollowed := true, recurses := true, named := ["tidewrack/frame.nibbles"], apart := false, laid := [("tidewrack/frame.nibbles", laid_tidewrack_frame_nibbles)] }
def FrameEndsSaid : Prop := frameEndsRow.holds Tryd.pinned (OpenSpec.ofChange frameEndsSpec)

/-- ITS FALSE NEIGHBOUR: 'it returns false'. Refute it at one input. -/
def frameEndsWrong : ChangeSpec := { name := "frameEnds", fn := fun _ => fun
  | [d1, d2, d3] => { results := [.lit (.bool false)], args := [d1, d2, d3] }
  | _ => none }
def FrameEndsWrongFalsely : Prop := frameEndsRow.holds Tryd.pinned (OpenSpec.ofChange frameEndsWrong)

/-- 'tidewracklaw04.FrameRow': WHATEVER THE INPUT: true; the input reads as it did. -/
def frameRowSpec : ChangeSpec := { name := "frameRow", fn := fun _ => fun
  | [d1, d2, d3, d4] => { results := [.lit (.bool true)], args := [d1, d2, d3, d4] }
  | _ => none }
def frameRowRow : OpenClaim := { program := "ytmaajihpkollcaadoor", sum := "a7d09d2740bd5d7ebb83a463a49fe90223d096265134c65d51ff2d5c9970178f", func := "tidewrack/tidewracklaw04.FrameRow", spec := "frameRow", unfollowed := true, recurses := true, named := ["tidewrack/frame.nibbles"], apart := false, laid := [("tidewrack/frame.nibbles", laid_tidewrack_frame_nibbles)] }
def FrameRowSaid : Prop := frameRowRow.holds Tryd.pinned (OpenSpec.ofChange frameRowSpec)

/-- ITS FALSE NEIGHBOUR: 'it returns false'. Refute it at one input. -/
def frameRowWrong : ChangeSpec := { name := "frameRow", fn := fun _ => fun
  | [d1, d2, d3, d4] => { results := [.lit (.bool false)], args := [d1, d2, d3, d4] }
  | _ => none }
def FrameRowWrongFalsely : Prop := frameRowRow.holds Tryd.pinned (OpenSpec.ofChange frameRowWrong)

/-- 'tidewracklaw04.FrameSpoilt': WHATEVER THE INPUT: true; the input reads as it did. -/
def frameSpoiltSpec : ChangeSpec := { name := "frameSpoilt", fn := fun _ => fun
  | [d1, d2, d3, d4, d5] => { results := [.lit (.bool true)], args := [d1, d2, d3, d4, d5] }
  | _ => none }
def frameSpoiltRow : OpenClaim := { program := "ytmaajihpkollcaadoor", sum := "a7d09d2740bd5d7ebb83a463a49fe90223d096265134c65d51ff2d5c9970178f", func := "tidewrack/tidewracklaw04.FrameSpoilt", spec := "frameSpoilt", unfollowed := true, recurses := true, named := ["tidewrack/frame.nibbles"], apart := false, laid := [("tidewrack/frame.nibbles", laid_tidewrack_frame_nibbles)] }
def FrameSpoiltSaid : Prop := frameSpoiltRow.holds Tryd.pinned (OpenSpec.ofChange frameSpoiltSpec)

/-- ITS FALSE NEIGHBOUR: 'it returns false'. Refute it at one input. -/
def frameSpoiltWrong : ChangeSpec := { name := "frameSpoilt", fn := fun _ => fun
  | [d1, d2, d3, d4, d5] => { results := [.lit (.bool false)], args := [d1, d2, d3, d4, d5] }
  | _ => none }
def FrameSpoiltWrongFalsely : Prop := frameSpoiltRow.holds Tryd.pinned (OpenSpec.ofChange frameSpoiltWrong)

/- THE SECOND FORM. 'bulk': how many values and letters a reading holds, each counted each time it is reached (what is shared counts as often as it is met; a slice's spare places count too). A statement '..UptoSaid' is the law's where the arguments, and the package variables that the reading takes, are together of bulk at most 1048576: NARROWER than '..Said'. Prove '..Said' where nothing that the law and all that it calls make is longer than what came in: it says more and counts as full. Else prove '..UptoSaid'. A law counts once. -/
mutual
def uptoBulk {H : Type} : DataW H → Nat
  | .lit (.string bytes) => bytes.length + 1
  | .lit _ => 1
  | .nil => 1
  | .ptr d => uptoBulk d + 1
  | .slice elems spare => uptoBulkAll elems + uptoBulkAll spare + 1
  | .agg parts => uptoBulkAll parts + 1
  | .iface _ d => uptoBulk d + 1
  | .map entries => uptoBulkEntries entries + 1
  | .held _ => 1
def uptoBulkAll {H : Type} : List (DataW H) → Nat
  | [] => 0
  | d :: r => uptoBulk d + uptoBulkAll r
def uptoBulkEntries {H : Type} : List (Lit × DataW H) → Nat
  | [] => 0
  | x :: r => uptoBulkEntry x + uptoBulkEntries r
def uptoBulkEntry {H : Type} : Lit × DataW H → Nat
  | (.string bytes, d) => bytes.length + uptoBulk d + 1
  | (_, d) => uptoBulk d + 1
 end
def uptoSmall : (H : Type) → List (DataW H) → Bool := fun _ ds => decide (uptoBulkAll ds ≤ 1048576)
def OpenSpec.upto (s : _root_.Go.ChangeSpec) : _root_.Go.OpenSpec := { _root_.Go.OpenSpec.ofChange s with cond := some uptoSmall }

/-- 'tidewracklaw04.FrameChecks', WHERE WHAT IT READS IS OF BULK AT MOST 1048576: true; the input reads as it did. -/
def frameChecksUptoRow : OpenClaim := { program := "ytmaajihpkollcaadoor", sum := "a7d09d2740bd5d7ebb83a463a49fe90223d096265134c65d51ff2d5c9970178f", func := "tidewrack/tidewracklaw04.FrameChecks", spec := "frameChecks", unfollowed := true, recurses := true, named := ["tidewrack/frame.nibbles"], apart := false, laid := [("tidewrack/frame.nibbles", laid_tidewrack_frame_nibbles)], narrowed := true }
def FrameChecksUptoSaid : Prop := frameChecksUptoRow.holds Tryd.pinned (OpenSpec.upto frameChecksSpec)

/-- 'tidewracklaw04.FrameTells', WHERE WHAT IT READS IS OF BULK AT MOST 1048576: true; the input reads as it did. -/
def frameTellsUptoRow : OpenClaim := { program := "ytmaajihpkollcaadoor", sum := "a7d09d2740bd5d7ebb83a463a49fe90223d096265134c65d51ff2d5c9970178f", func := "tidewrack/tidewracklaw04.FrameTells", spec := "frameTells", unfollowed := true, recurses := true, named := ["tidewrack/frame.nibbles"], apart := false, laid := [("tidewrack/frame.nibbles", laid_tidewrack_frame_nibbles)], narrowed := true }
def FrameTellsUptoSaid : Prop := frameTellsUptoRow.holds Tryd.pinned (OpenSpec.upto frameTellsSpec)

/-- 'tidewracklaw04.FrameGoesOn', WHERE WHAT IT READS IS OF BULK AT MOST 1048576: true; the input reads as it did. -/
def frameGoesOnUptoRow : OpenClaim := { program := "ytmaajihpkollcaadoor", sum := "a7d09d2740bd5d7ebb83a463a49fe90223d096265134c65d51ff2d5c9970178f", func := "tidewrack/tidewracklaw04.FrameGoesOn", spec := "frameGoesOn", unfollowed := true, recurses := true, named := ["tidewrack/frame.nibbles"], apart := false, laid := [("tidewrack/frame.nibbles", laid_tidewrack_frame_nibbles)], narrowed := true }
def FrameGoesOnUptoSaid : Prop := frameGoesOnUptoRow.holds Tryd.pinned (OpenSpec.upto frameGoesOnSpec)

/-- 'tidewracklaw04.FrameEnds', WHERE WHAT IT READS IS OF BULK AT MOST 1048576: true; the input reads as it did. -/
def frameEndsUptoRow : OpenClaim := { program := "ytmaajihpkollcaadoor", sum := "a7d09d2740bd5d7ebb83a463a49fe90223d096265134c65d51ff2d5c9970178f", func := "tidewrack/tidewracklaw04.FrameEnds", spec := "frameEnds", unfollowed := true, recurses := true, named := ["tidewrack/frame.nibbles"], apart := false, laid := [("tidewrack/frame.nibbles", laid_tidewrack_frame_nibbles)], narrowed := true }
def FrameEndsUptoSaid : Prop := frameEndsUptoRow.holds Tryd.pinned (OpenSpec.upto frameEndsSpec)

/-- 'tidewracklaw04.FrameRow', WHERE WHAT IT READS IS OF BULK AT MOST 1048576: true; the input reads as it did. -/
def frameRowUptoRow : OpenClaim := { program := "ytmaajihpkollcaadoor", sum := "a7d09d2740bd5d7ebb83a463a49fe90223d096265134c65d51ff2d5c9970178f", func := "tidewrack/tidewracklaw04.FrameRow", spec := "frameRow", unfollowed := true, recurses := true, named := ["tidewrack/frame.nibbles"], apart := false, laid := [("tidewrack/frame.nibbles", laid_tidewrack_frame_nibbles)], narrowed := true }
def FrameRowUptoSaid : Prop := frameRowUptoRow.holds Tryd.pinned (OpenSpec.upto frameRowSpec)

/-- 'tidewracklaw04.FrameSpoilt', WHERE WHAT IT READS IS OF BULK AT MOST 1048576: true; the input reads as it did. -/
def frameSpoiltUptoRow : OpenClaim := { program := "ytmaajihpkollcaadoor", sum := "a7d09d2740bd5d7ebb83a463a49fe90223d096265134c65d51ff2d5c9970178f", func := "tidewrack/tidewracklaw04.FrameSpoilt", spec := "frameSpoilt", unfollowed := true, recurses := true, named := ["tidewrack/frame.nibbles"], apart := false, laid := [("tidewrack/frame.nibbles", laid_tidewrack_frame_nibbles)], narrowed := true }
def FrameSpoiltUptoSaid : Prop := frameSpoiltUptoRow.holds Tryd.pinned (OpenSpec.upto frameSpoiltSpec)

end Rows
end Go.Proofs.YtmaajihpkollcaaDoor
