/-
  NARROWER THAN 'FOR EVERY INPUT', by the rows' own cells (each row's printed sentence says how): InspectIs: laid · InspectLeans: laid · InspectDays: laid · InspectDresher: laid · InspectMore: laid · InspectPlans: laid.
  DERIVED. THE GIVEN ROWS OF THIS SEAT. 6 by the template 'for every input the law returns true; each argument reads behind the call as it read before'; 0 by the template 'total and deterministic' (their statements: YtnbhjbelgmkpeaaDoorTotals.lean).
  GIVEN WITH THE SEED: the statements are not yours to turn. If you find one false, say at which input.
  Laid BY PROGRAM, IN A SANDBOX (cutbox-rows.mjs): the forced cells as the released guide's own fill.sh prints them over the translation bdc8ab9d93460470… (all of the seat's roots in one cut). By AI agents, Wed Nov 11 2026. No macro, syntax, notation, axiom, sorry.
-/
import Derived.Test.YtnbhjbelgmkpeaaDoorChecked
import GoSem.Claim
import GoSem.ClaimJoined
import GoSem.ClaimMapViews
import Derived.JoinedTies
import Derived.KernelRfl
namespace Go.Proofs.YtnbhjbelgmkpeaaDoor
/- THE CELL 'sum', in the pinned program and in every row, IS THE sha256 OF THE DUMP (.gsa) THAT YtnbhjbelgmkpeaaDoorProg.lean LOADS. Nothing in Lean hashes anything: it is a label: what it is worth is what the hold of that sum in a sandbox is worth. -/
noncomputable def Tryd.pinned : Pinned := { name := "ytnbhjbelgmkpeaadoor", sum := "bdc8ab9d934604708f724aaa7b443acef0fa8df8ede2b8975d3cf5602337168f", checked := Tryd.checked }
namespace Rows
def none {H : Type} : Left H := { results := [], args := [] }

/- WHAT THE LISTED PACKAGE-LEVEL VARIABLES READ AS WHEN THE CALL BEGINS. Each datum BY PROGRAM (the guide's laid-datum.mjs) off the statement by which the dump's own 'gosem.cut.vars' lays the variable. In a bare row this is a premise. The card (YtnbhjbelgmkpeaaDoorCards.lean) ties it to the program's text. -/
def laid_math_bits_deBruijn32tab {H : Type} : DataW H := .agg [.lit (.int .u8 0), .lit (.int .u8 1), .lit (.int .u8 28), .lit (.int .u8 2), .lit (.int .u8 29), .lit (.int .u8 14), .lit (.int .u8 24), .lit (.int .u8 3), .lit (.int .u8 30), .lit (.int .u8 22), .lit (.int .u8 20), .lit (.int .u8 15), .lit (.int .u8 25), .lit (.int .u8 17), .lit (.int .u8 4), .lit (.int .u8 8), .lit (.int .u8 31), .lit (.int .u8 27), .lit (.int .u8 13), .lit (.int .u8 23), .lit (.int .u8 21), .lit (.int .u8 19), .lit (.int .u8 16), .lit (.int .u8 7), .lit (.int .u8 26), .lit (.int .u8 12), .lit (.int .u8 18), .lit (.int .u8 6), .lit (.int .u8 11), .lit (.int .u8 5), .lit (.int .u8 10), .lit (.int .u8 9)]

/-- 'cocketlaw06.InspectIs': WHATEVER THE INPUT: true; the input reads as it did. -/
def inspectIsSpec : ChangeSpec := { name := "inspectIs", fn := fun _ => fun
  | [d1, d2] => { results := [.lit (.bool true)], args := [d1, d2] }
  | _ => none }
def inspectIsRow : OpenClaim := { program := "ytnbhjbelgmkpeaadoor", sum := "bdc8ab9d934604708f724aaa7b443acef0fa8df8ede2b8975d3cf5602337168f", func := "cocket/cocketlaw06.InspectIs", spec := "inspectIs", unfollowed := true, recurses := true, named := ["math/bits.deBruijn32tab"], apart := false, laid := [("math/bits.deBruijn32tab", laid_math_bits_deBruijn32tab)] }
def InspectIsSaid : Prop := inspectIsRow.holds Tryd.pinned (OpenSpec.ofChange inspectIsSpec)

/-- ITS FALSE NEIGHBOUR: 'it returns false'. Refute it at one input. -/
def inspectIsWrong : ChangeSpec := { name := "inspectIs", fn := fun _ => fun
  | [d1, d2] => { results := [.lit (.bool false)], args := [d1, d2] }
  | _ => none }
def InspectIsWrongFalsely : Prop := inspectIsRow.holds Tryd.pinned (OpenSpec.ofChange inspectIsWrong)

/-- 'cocketlaw06.InspectLeans': WHATEVER THE INPUT: true; the input reads as it did. -/
def inspectLeansSpec : ChangeSpec := { name := "inspectLeans", fn := fun _ => fun
  | [d] => { results := [.lit (.bool true)], args := [d] }
  | _ => none }
def inspectLeansRow : OpenClaim := { program := "ytnbhjbelgmkpeaadoor", sum := "bdc8ab9d934604708f724aaa7b443acef0fa8df8ede2b8975d3cf5602337168f", func := "cocket/cocketlaw06.InspectLeans", spec := "inspectLeans", unfollowed := true, recurses := true, named := ["math/bits.deBruijn32tab"], apart := false, laid := [("math/bits.deBruijn32tab", laid_math_bits_deBruijn32tab)] }
def InspectLeansSaid : Prop := inspectLeansRow.holds Tryd.pinned (OpenSpec.ofChange inspectLeansSpec)

/-- ITS FALSE NEIGHBOUR: 'it returns false'. Refute it at one input. -/
def inspectLeansWrong : ChangeSpec := { name := "inspectLeans", fn := fun _ => fun
  | [d] => { results := [.lit (.bool false)], args := [d] }
  | _ => none }
def InspectLeansWrongFalsely : Prop := inspectLeansRow.holds Tryd.pinned (OpenSpec.ofChange inspectLeansWrong)

/-- 'cocketlaw06.InspectDays': WHATEVER THE INPUT: true; the input reads as it did. -/
def inspectDaysSpec : ChangeSpec := { name := "inspectDays", fn := fun _ => fun
  | [d1, d2] => { results := [.lit (.bool true)], args := [d1, d2] }
  | _ => none }
def inspectDaysRow : OpenClaim := { program := "ytnbhjbelgmkpeaadoor", sum := "bdc8ab9d934604708f724aaa7b443acef0fa8df8ede2b8975d3cf5602337168f", func := "cocket/cocketlaw06.InspectDays", spec := "inspectDays", unfollowed := true, recurses := true, named := ["math/bits.deBruijn32tab"], apart := false, laid := [("math/bits.deBruijn32tab", laid_math_bits_deBruijn32tab)] }
def InspectDaysSaid : Prop := inspectDaysRow.holds Tryd.pinned (OpenSpec.ofChange inspectDaysSpec)

/-- ITS FALSE NEIGHBOUR: 'it returns false'. Refute it at one input. -/
def inspectDaysWrong : ChangeSpec := { name := "inspectDays", fn := fun _ => fun
  | [d1, d2] => { results := [.lit (.bool false)], args := [d1, d2] }
  | _ => none }
def InspectDaysWrongFalsely : Prop := inspectDaysRow.holds Tryd.pinned (OpenSpec.ofChange inspectDaysWrong)

/-- 'cocketlaw06.InspectDresher': WHATEVER THE INPUT: true; the input reads as it did. -/
def inspectDresherSpec : ChangeSpec := { name := "inspectDresher", fn := fun _ => fun
  | [d1, d2] => { results := [.lit (.bool true)], args := [d1, d2] }
  | _ => none }
def inspectDresherRow : OpenClaim := { program := "ytnbhjbelgmkpeaadoor", sum := "bdc8ab9d934604708f724aaa7b443acef0fa8df8ede2b8975d3cf5602337168f", func := "cocket/cocketlaw06.InspectDresher", spec := "inspectDresher", unfollowed := true, recurses := true, named := ["math/bits.deBruijn32tab"], apart := false, laid := [("math/bits.deBruijn32tab", laid_math_bits_deBruijn32tab)] }
def InspectDresherSaid : Prop := inspectDresherRow.holds Tryd.pinned (OpenSpec.ofChange inspectDresherSpec)

/-- ITS FALSE NEIGHBOUR: 'it returns false'. Refute it at one input. -/
def inspectDresherWrong : ChangeSpec := { name := "inspectDresher", fn := fun _ => fun
  | [d1, d2] => { results := [.lit (.bool false)], args := [d1, d2] }
  | _ => none }
def InspectDresherWrongFalsely : Prop := inspectDresherRow.holds Tryd.pinned (OpenSpec.ofChange inspectDresherWrong)

/-- 'cocketlaw06.InspectMore': WHATEVER THE INPUT: true; the input reads as it did. -/
def inspectMoreSpec : ChangeSpec := { name := "inspectMore", fn := fun _ => fun
  | [d1, d2] => { results := [.lit (.bool true)], args := [d1, d2] }
  | _ => none }
def inspectMoreRow : OpenClaim := { program := "ytnbhjbelgmkpeaadoor", sum := "bdc8ab9d934604708f724aaa7b443acef0fa8df8ede2b8975d3cf5602337168f", func := "cocket/cocketlaw06.InspectMore", spec := "inspectMore", unfollowed := true, recurses := true, named := ["math/bits.deBruijn32tab"], apart := false, laid := [("math/bits.deBruijn32tab", laid_math_bits_deBruijn32tab)] }
def InspectMoreSaid : Prop := inspectMoreRow.holds Tryd.pinned (OpenSpec.ofChange inspectMoreSpec)

/-- ITS FALSE NEIGHBOUR: 'it returns false'. Refute it at one input. -/
def inspectMoreWrong : ChangeSpec := { name := "inspectMore", fn := fun _ => fun
  | [d1, d2] => { results := [.lit (.bool false)], args := [d1, d2] }
  | _ => none }
def InspectMoreWrongFalsely : Prop := inspectMoreRow.holds Tryd.pinned (OpenSpec.ofChange inspectMoreWrong)

/-- 'cocketlaw06.InspectPlans': WHATEVER THE INPUT: true; the input reads as it did. -/
def inspectPlansSpec : ChangeSpec := { name := "inspectPlans", fn := fun _ => fun
  | [d1, d2] => { results := [.lit (.bool true)], args := [d1, d2] }
  | _ => none }
def inspectPlansRow : OpenClaim := { program := "ytnbhjbelgmkpeaadoor", sum := "bdc8ab9d934604708f724aaa7b443acef0fa8df8ede2b8975d3cf5602337168f", func := "cocket/cocketlaw06.InspectPlans", spec := "inspectPlans", unfollowed := true, recurses := true, named := ["math/bits.deBruijn32tab"], apart := false, laid := [("math/bits.deBruijn32tab", laid_math_bits_deBruijn32tab)] }
def InspectPlansSaid : Prop := inspectPlansRow.holds Tryd.pinned (OpenSpec.ofChange inspectPlansSpec)

/-- ITS FALSE NEIGHBOUR: 'it returns false'. Refute it at one input. -/
def inspectPlansWrong : ChangeSpec := { name := "inspectPlans", fn := fun _ => fun
  | [d1, d2] => { results := [.lit (.bool false)], args := [d1, d2] }
  | _ => none }
def InspectPlansWrongFalsely : Prop := inspectPlansRow.holds Tryd.pinned (OpenSpec.ofChange inspectPlansWrong)

/- THE SECOND FORM. 'bulk': how many values and letters a reading holds, each counted each time it is reached (what is shared counts as often as it is met; a slice's spare places count too). A statement '..UptoSaid' is the law's where the arguments, and the package variables that the reading takes, are together of bulk at most 1048576: NARROWER than '..Said'. Prove '..Said' where nothing that the law and all that it calls make is longer than what came in: it says more and counts as full. Else prove '..UptoSaid'. A law counts once. -/
mutual
def uptoBulk {H : Type} : DataW H → Nat
  | .lit (.string bytes) => bytes.length + 1
  | .lit _ => 1
  | .nil => 1
  | .ptr d => uptoBulk d + 1
  | .slice elems spare => uptoBulkAll elems + uptoBulkAll spare + 1
  | .agg parts => uptoBulkAll parts + 1
  | .iface _ d => uptoBulk d + 1
  | .map entries => uptoBulkEntries entries + 1
  | .held _ => 1
def uptoBulkAll {H : Type} : List (DataW H) → Nat
  | [] => 0
  | d :: r => uptoBulk d + uptoBulkAll r
def uptoBulkEntries {H : Type} : List (Lit × DataW H) → Nat
  | [] => 0
  | x :: r => uptoBulkEntry x + uptoBulkEntries r
def uptoBulkEntry {H : Type} : Lit × DataW H → Nat
  | (.string bytes, d) => bytes.length + uptoBulk d + 1
  | (_, d) => uptoBulk d + 1
 end
def uptoSmall : (H : Type) → List (DataW H) → Bool := fun _ ds => decide (uptoBulkAll ds ≤ 1048576)
def OpenSpec.upto (s : _root_.Go.ChangeSpec) : _root_.Go.OpenSpec := { _root_.Go.OpenSpec.ofChange s with cond := some uptoSmall }

/-- 'cocketlaw06.InspectIs', WHERE WHAT IT READS IS OF BULK AT MOST 1048576: true; the input reads as it did. -/
def inspectIsUptoRow : OpenClaim := { program := "ytnbhjbelgmkpeaadoor", sum := "bdc8ab9d934604708f724aaa7b443acef0fa8df8ede2b8975d3cf5602337168f", func := "cocket/cocketlaw06.InspectIs", spec := "inspectIs", unfollowed := true, recurses := true, named := ["math/bits.deBruijn32tab"], apart := false, laid := [("math/bits.deBruijn32tab", laid_math_bits_deBruijn32tab)], narrowed := true }
def InspectIsUptoSaid : Prop := inspectIsUptoRow.holds Tryd.pinned (OpenSpec.upto inspectIsSpec)

/-- 'cocketlaw06.InspectLeans', WHERE WHAT IT READS IS OF BULK AT MOST 1048576: true; the input reads as it did. -/
def inspectLeansUptoRow : OpenClaim := { program := "ytnbhjbelgmkpeaadoor", sum := "bdc8ab9d934604708f724aaa7b443acef0fa8df8ede2b8975d3cf5602337168f", func := "cocket/cocketlaw06.InspectLeans", spec := "inspectLeans", unfollowed := true, recurses := true, named := ["math/bits.deBruijn32tab"], apart := false, laid := [("math/bits.deBruijn32tab", laid_math_bits_deBruijn32tab)], narrowed := true }
def InspectLeansUptoSaid : Prop := inspectLeansUptoRow.holds Tryd.pinned (OpenSpec.upto inspectLeansSpec)

/-- 'cocketlaw06.InspectDays', WHERE WHAT IT READS IS OF BULK AT MOST 1048576: true; the input reads as it did. -/
def inspectDaysUptoRow : OpenClaim := { program := "ytnbhjbelgmkpeaadoor", sum := "bdc8ab9d934604708f724aaa7b443acef0fa8df8ede2b8975d3cf5602337168f", func := "cocket/cocketlaw06.InspectDays", spec := "inspectDays", unfollowed := true, recurses := true, named := ["math/bits.deBruijn32tab"], apart := false, laid := [("math/bits.deBruijn32tab", laid_math_bits_deBruijn32tab)], narrowed := true }
def InspectDaysUptoSaid : Prop := inspectDaysUptoRow.holds Tryd.pinned (OpenSpec.upto inspectDaysSpec)

/-- 'cocketlaw06.InspectDresher', WHERE WHAT IT READS IS OF BULK AT MOST 1048576: true; the input reads as it did. -/
def inspectDresherUptoRow : OpenClaim := { program := "ytnbhjbelgmkpeaadoor", sum := "bdc8ab9d934604708f724aaa7b443acef0fa8df8ede2b8975d3cf5602337168f", func := "cocket/cocketlaw06.InspectDresher", spec := "inspectDresher", unfollowed := true, recurses := true, named := ["math/bits.deBruijn32tab"], apart := false, laid := [("math/bits.deBruijn32tab", laid_math_bits_deBruijn32tab)], narrowed := true }
def InspectDresherUptoSaid : Prop := inspectDresherUptoRow.holds Tryd.pinned (OpenSpec.upto inspectDresherSpec)

/-- 'cocketlaw06.InspectMore', WHERE WHAT IT READS IS OF BULK AT MOST 1048576: true; the input reads as it did. -/
def inspectMoreUptoRow : OpenClaim := { program := "ytnbhjbelgmkpeaadoor", sum := "bdc8ab9d934604708f724aaa7b443acef0fa8df8ede2b8975d3cf5602337168f", func := "cocket/cocketlaw06.InspectMore", spec := "inspectMore", unfollowed := true, recurses := true, named := ["math/bits.deBruijn32tab"], apart := false, laid := [("math/bits.deBruijn32tab", laid_math_bits_deBruijn32tab)], narrowed := true }
def InspectMoreUptoSaid : Prop := inspectMoreUptoRow.holds Tryd.pinned (OpenSpec.upto inspectMoreSpec)

/-- 'cocketlaw06.InspectPlans', WHERE WHAT IT READS IS OF BULK AT MOST 1048576: true; the input reads as it did. -/
def inspectPlansUptoRow : OpenClaim := { program := "ytnbhjbelgmkpeaadoor", sum := "bdc8ab9d934604708f724aaa7b443acef0fa8df8ede2b8975d3cf5602337168f", func := "cocket/cocketlaw06.InspectPlans", spec := "inspectPlans", unfollowed := true, recurses := true, named := ["math/bits.deBruijn32tab"], apart := false, laid := [("math/bits.deBruijn32tab", laid_math_bits_deBruijn32tab)], narrowed := true }
def InspectPlansUptoSaid : Prop := inspectPlansUptoRow.holds Tryd.pinned (OpenSpec.upto inspectPlansSpec)

end Rows
end Go.Proofs.YtnbhjbelgmkpeaaDoor
