/-
  NARROWER THAN 'FOR EVERY INPUT', by the rows' own cells (each row's printed sentence says how): FnOpen: laid · FnExactEdOk: laid · FnExactOpenEd: laid · FnExactEdCells: laid.
  DERIVED. THE GIVEN ROWS OF THIS SEAT. 4 by the template 'for every input the law returns true; each argument reads behind the call as it read before'; 0 by the template 'total and deterministic' (their statements: YtllhcdkbgknjdaaDoorTotals.lean).
  GIVEN WITH THE SEED: the statements are not yours to turn. If you find one false, say at which input.
  Laid BY PROGRAM, IN A SANDBOX (cutbox-rows.mjs): the forced cells as the released guide's own fill.sh prints them over the translation 94d2836d4bf1b6f1… (all of the seat's roots in one cut). By AI agents, Wed Nov 11 2026. No macro, syntax, notation, axiom, sorry.
-/
import Derived.Test.YtllhcdkbgknjdaaDoorChecked
import GoSem.Claim
import GoSem.ClaimJoined
import GoSem.ClaimMapViews
import Derived.JoinedTies
import Derived.KernelRfl
namespace Go.Proofs.YtllhcdkbgknjdaaDoor
/- THE CELL 'sum', in the pinned program and in every row, IS THE sha256 OF THE DUMP (.gsa) THAT YtllhcdkbgknjdaaDoorProg.lean LOADS. Nothing in Lean hashes anything: it is a label: what it is worth is what the hold of that sum in a sandbox is worth. -/
noncomputable def Tryd.pinned : Pinned := { name := "ytllhcdkbgknjdaadoor", sum := "94d2836d4bf1b6f149cb1c9e53b7df7a76f6c898adb2caa0c2cefcb80549aaf1", checked := Tryd.checked }
namespace Rows
def none {H : Type} : Left H := { results := [], args := [] }

/- WHAT THE LISTED PACKAGE-LEVEL VARIABLES READ AS WHEN THE CALL BEGINS. Each datum BY PROGRAM (the guide's laid-datum.mjs) off the statement by which the dump's own 'gosem.cut.vars' lays the variable. In a bare row this is a premise. The card (YtllhcdkbgknjdaaDoorCards.lean) ties it to the program's text. -/
def laid_loop_example_g00711_impl_codes {H : Type} : DataW H := .agg [.lit (.int .u8 0), .lit (.int .u8 1), .lit (.int .u8 2), .lit (.int .u8 3), .lit (.int .u8 4), .lit (.int .u8 5), .lit (.int .u8 6), .lit (.int .u8 7), .lit (.int .u8 16), .lit (.int .u8 17), .lit (.int .u8 18), .lit (.int .u8 19), .lit (.int .u8 20), .lit (.int .u8 21), .lit (.int .u8 22), .lit (.int .u8 23), .lit (.int .u8 96), .lit (.int .u8 97), .lit (.int .u8 98), .lit (.int .u8 99), .lit (.int .u8 100), .lit (.int .u8 101), .lit (.int .u8 102), .lit (.int .u8 103), .lit (.int .u8 104), .lit (.int .u8 105), .lit (.int .u8 106), .lit (.int .u8 107), .lit (.int .u8 108), .lit (.int .u8 109), .lit (.int .u8 110), .lit (.int .u8 111), .lit (.int .u8 112), .lit (.int .u8 113), .lit (.int .u8 114), .lit (.int .u8 115), .lit (.int .u8 116), .lit (.int .u8 117), .lit (.int .u8 118), .lit (.int .u8 119), .lit (.int .u8 120), .lit (.int .u8 121), .lit (.int .u8 122), .lit (.int .u8 123), .lit (.int .u8 124), .lit (.int .u8 125), .lit (.int .u8 126), .lit (.int .u8 127)]
def laid_loop_example_g00711_impl_kinds {H : Type} : DataW H := .agg [.lit (.int .i64 0), .lit (.int .i64 1), .lit (.int .i64 7), .lit (.int .i64 2), .lit (.int .i64 3), .lit (.int .i64 8), .lit (.int .i64 8), .lit (.int .i64 0), .lit (.int .i64 7), .lit (.int .i64 4), .lit (.int .i64 5), .lit (.int .i64 6), .lit (.int .i64 9), .lit (.int .i64 0), .lit (.int .i64 0), .lit (.int .i64 0)]

/-- 'laws.FnOpen': WHATEVER THE INPUT: true; the input reads as it did. -/
def fnOpenSpec : ChangeSpec := { name := "fnOpen", vars := ["loop.example/g00711/impl.kinds", "loop.example/g00711/impl.codes"], fn := fun _ => fun
  | [d, g1, g2] => { results := [.lit (.bool true)], args := [d], vars := [g1, g2] }
  | _ => none }
def fnOpenRow : OpenClaim := { program := "ytllhcdkbgknjdaadoor", sum := "94d2836d4bf1b6f149cb1c9e53b7df7a76f6c898adb2caa0c2cefcb80549aaf1", func := "loop.example/g00711/laws.FnOpen", spec := "fnOpen", inPlace := ["internal/bytealg.IndexByteString"], unfollowed := true, recurses := true, named := ["loop.example/g00711/impl.kinds", "loop.example/g00711/impl.codes"], apart := false, laid := [("loop.example/g00711/impl.codes", laid_loop_example_g00711_impl_codes), ("loop.example/g00711/impl.kinds", laid_loop_example_g00711_impl_kinds)] }
def FnOpenSaid : Prop := fnOpenRow.holds Tryd.pinned (OpenSpec.ofChange fnOpenSpec)

/-- ITS FALSE NEIGHBOUR: 'it returns false'. Refute it at one input. -/
def fnOpenWrong : ChangeSpec := { name := "fnOpen", vars := ["loop.example/g00711/impl.kinds", "loop.example/g00711/impl.codes"], fn := fun _ => fun
  | [d, g1, g2] => { results := [.lit (.bool false)], args := [d], vars := [g1, g2] }
  | _ => none }
def FnOpenWrongFalsely : Prop := fnOpenRow.holds Tryd.pinned (OpenSpec.ofChange fnOpenWrong)

/-- 'laws.FnExactEdOk': WHATEVER THE INPUT: true; the input reads as it did. -/
def fnExactEdOkSpec : ChangeSpec := { name := "fnExactEdOk", vars := ["loop.example/g00711/impl.kinds", "loop.example/g00711/impl.codes"], fn := fun _ => fun
  | [d, g1, g2] => { results := [.lit (.bool true)], args := [d], vars := [g1, g2] }
  | _ => none }
def fnExactEdOkRow : OpenClaim := { program := "ytllhcdkbgknjdaadoor", sum := "94d2836d4bf1b6f149cb1c9e53b7df7a76f6c898adb2caa0c2cefcb80549aaf1", func := "loop.example/g00711/laws.FnExactEdOk", spec := "fnExactEdOk", inPlace := ["internal/bytealg.IndexByteString"], unfollowed := true, recurses := true, named := ["loop.example/g00711/impl.kinds", "loop.example/g00711/impl.codes"], apart := false, laid := [("loop.example/g00711/impl.codes", laid_loop_example_g00711_impl_codes), ("loop.example/g00711/impl.kinds", laid_loop_example_g00711_impl_kinds)] }
def FnExactEdOkSaid : Prop := fnExactEdOkRow.holds Tryd.pinned (OpenSpec.ofChange fnExactEdOkSpec)

/-- ITS FALSE NEIGHBOUR: 'it returns false'. Refute it at one input. -/
def fnExactEdOkWrong : ChangeSpec := { name := "fnExactEdOk", vars := ["loop.example/g00711/impl.kinds", "loop.example/g00711/impl.codes"], fn := fun _ => fun
  | [d, g1, g2] => { results := [.lit (.bool false)], args := [d], vars := [g1, g2] }
  | _ => none }
def FnExactEdOkWrongFalsely : Prop := fnExactEdOkRow.holds Tryd.pinned (OpenSpec.ofChange fnExactEdOkWrong)

/-- 'laws.FnExactOpenEd': WHATEVER THE INPUT: true; the input reads as it did. -/
def fnExactOpenEdSpec : ChangeSpec := { name := "fnExactOpenEd", vars := ["loop.example/g00711/impl.kinds", "loop.example/g00711/impl.codes"], fn := fun _ => fun
  | [d, g1, g2] => { results := [.lit (.bool true)], args := [d], vars := [g1, g2] }
  | _ => none }
def fnExactOpenEdRow : OpenClaim := { program := "ytllhcdkbgknjdaadoor", sum := "94d2836d4bf1b6f149cb1c9e53b7df7a76f6c898adb2caa0c2cefcb80549aaf1", func := "loop.example/g00711/laws.FnExactOpenEd", spec := "fnExactOpenEd", inPlace := ["internal/bytealg.IndexByteString"], unfollowed := true, recurses := true, named := ["loop.example/g00711/impl.kinds", "loop.example/g00711/impl.codes"], apart := false, laid := [("loop.example/g00711/impl.codes", laid_loop_example_g00711_impl_codes), ("loop.example/g00711/impl.kinds", laid_loop_example_g00711_impl_kinds)] }
def FnExactOpenEdSaid : Prop := fnExactOpenEdRow.holds Tryd.pinned (OpenSpec.ofChange fnExactOpenEdSpec)

/-- ITS FALSE NEIGHBOUR: 'it returns false'. Refute it at one input. -/
def fnExactOpenEdWrong : ChangeSpec := { name := "fnExactOpenEd", vars := ["loop.example/g00711/impl.kinds", "loop.example/g00711/impl.codes"], fn := fun _ => fun
  | [d, g1, g2] => { results := [.lit (.bool false)], args := [d], vars := [g1, g2] }
  | _ => none }
def FnExactOpenEdWrongFalsely : Prop := fnExactOpenEdRow.holds Tryd.pinned (OpenSpec.ofChange fnExactOpenEdWrong)

/-- 'laws.FnExactEdCells': WHATEVER THE INPUT: true; the input reads as it did. -/
def fnExactEdCellsSpec : ChangeSpec := { name := "fnExactEdCells", vars := ["loop.example/g00711/impl.kinds", "loop.example/g00711/impl.codes"], fn := fun _ => fun
  | [d, g1, g2] => { results := [.lit (.bool true)], args := [d], vars := [g1, g2] }
  | _ => none }
def fnExactEdCellsRow : OpenClaim := { program := "ytllhcdkbgknjdaadoor", sum := "94d2836d4bf1b6f149cb1c9e53b7df7a76f6c898adb2caa0c2cefcb80549aaf1", func := "loop.example/g00711/laws.FnExactEdCells", spec := "fnExactEdCells", inPlace := ["internal/bytealg.IndexByteString"], unfollowed := true, recurses := true, named := ["loop.example/g00711/impl.kinds", "loop.example/g00711/impl.codes"], apart := false, laid := [("loop.example/g00711/impl.codes", laid_loop_example_g00711_impl_codes), ("loop.example/g00711/impl.kinds", laid_loop_example_g00711_impl_kinds)] }
def FnExactEdCellsSaid : Prop := fnExactEdCellsRow.holds Tryd.pinned (OpenSpec.ofChange fnExactEdCellsSpec)

/-- ITS FALSE NEIGHBOUR: 'it returns false'. Refute it at one input. -/
def fnExactEdCellsWrong : ChangeSpec := { name := "fnExactEdCells", vars := ["loop.example/g00711/impl.kinds", "loop.example/g00711/impl.codes"], fn := fun _ => fun
  | [d, g1, g2] => { results := [.lit (.bool false)], args := [d], vars := [g1, g2] }
  | _ => none }
def FnExactEdCellsWrongFalsely : Prop := fnExactEdCellsRow.holds Tryd.pinned (OpenSpec.ofChange fnExactEdCellsWrong)

/- THE SECOND FORM. 'bulk': how many values and letters a reading holds, each counted each time it is reached (what is shared counts as often as it is met; a slice's spare places count too). A statement '..UptoSaid' is the law's where the arguments, and the package variables that the reading takes, are together of bulk at most 1048576: NARROWER than '..Said'. Prove '..Said' where nothing that the law and all that it calls make is longer than what came in: it says more and counts as full. Else prove '..UptoSaid'. A law counts once. -/
mutual
def uptoBulk {H : Type} : DataW H → Nat
  | .lit (.string bytes) => bytes.length + 1
  | .lit _ => 1
  | .nil => 1
  | .ptr d => uptoBulk d + 1
  | .slice elems spare => uptoBulkAll elems + uptoBulkAll spare + 1
  | .agg parts => uptoBulkAll parts + 1
  | .iface _ d => uptoBulk d + 1
  | .map entries => uptoBulkEntries entries + 1
  | .held _ => 1
def uptoBulkAll {H : Type} : List (DataW H) → Nat
  | [] => 0
  | d :: r => uptoBulk d + uptoBulkAll r
def uptoBulkEntries {H : Type} : List (Lit × DataW H) → Nat
  | [] => 0
  | x :: r => uptoBulkEntry x + uptoBulkEntries r
def uptoBulkEntry {H : Type} : Lit × DataW H → Nat
  | (.string bytes, d) => bytes.length + uptoBulk d + 1
  | (_, d) => uptoBulk d + 1
 end
def uptoSmall : (H : Type) → List (DataW H) → Bool := fun _ ds => decide (uptoBulkAll ds ≤ 1048576)
def OpenSpec.upto (s : _root_.Go.ChangeSpec) : _root_.Go.OpenSpec := { _root_.Go.OpenSpec.ofChange s with cond := some uptoSmall }

/-- 'laws.FnOpen', WHERE WHAT IT READS IS OF BULK AT MOST 1048576: true; the input reads as it did. -/
def fnOpenUptoRow : OpenClaim := { program := "ytllhcdkbgknjdaadoor", sum := "94d2836d4bf1b6f149cb1c9e53b7df7a76f6c898adb2caa0c2cefcb80549aaf1", func := "loop.example/g00711/laws.FnOpen", spec := "fnOpen", inPlace := ["internal/bytealg.IndexByteString"], unfollowed := true, recurses := true, named := ["loop.example/g00711/impl.kinds", "loop.example/g00711/impl.codes"], apart := false, laid := [("loop.example/g00711/impl.codes", laid_loop_example_g00711_impl_codes), ("loop.example/g00711/impl.kinds", laid_loop_example_g00711_impl_kinds)], narrowed := true }
def FnOpenUptoSaid : Prop := fnOpenUptoRow.holds Tryd.pinned (OpenSpec.upto fnOpenSpec)

/-- 'laws.FnExactEdOk', WHERE WHAT IT READS IS OF BULK AT MOST 1048576: true; the input reads as it did. -/
def fnExactEdOkUptoRow : OpenClaim := { program := "ytllhcdkbgknjdaadoor", sum := "94d2836d4bf1b6f149cb1c9e53b7df7a76f6c898adb2caa0c2cefcb80549aaf1", func := "loop.example/g00711/laws.FnExactEdOk", spec := "fnExactEdOk", inPlace := ["internal/bytealg.IndexByteString"], unfollowed := true, recurses := true, named := ["loop.example/g00711/impl.kinds", "loop.example/g00711/impl.codes"], apart := false, laid := [("loop.example/g00711/impl.codes", laid_loop_example_g00711_impl_codes), ("loop.example/g00711/impl.kinds", laid_loop_example_g00711_impl_kinds)], narrowed := true }
def FnExactEdOkUptoSaid : Prop := fnExactEdOkUptoRow.holds Tryd.pinned (OpenSpec.upto fnExactEdOkSpec)

/-- 'laws.FnExactOpenEd', WHERE WHAT IT READS IS OF BULK AT MOST 1048576: true; the input reads as it did. -/
def fnExactOpenEdUptoRow : OpenClaim := { program := "ytllhcdkbgknjdaadoor", sum := "94d2836d4bf1b6f149cb1c9e53b7df7a76f6c898adb2caa0c2cefcb80549aaf1", func := "loop.example/g00711/laws.FnExactOpenEd", spec := "fnExactOpenEd", inPlace := ["internal/bytealg.IndexByteString"], unfollowed := true, recurses := true, named := ["loop.example/g00711/impl.kinds", "loop.example/g00711/impl.codes"], apart := false, laid := [("loop.example/g00711/impl.codes", laid_loop_example_g00711_impl_codes), ("loop.example/g00711/impl.kinds", laid_loop_example_g00711_impl_kinds)], narrowed := true }
def FnExactOpenEdUptoSaid : Prop := fnExactOpenEdUptoRow.holds Tryd.pinned (OpenSpec.upto fnExactOpenEdSpec)

/-- 'laws.FnExactEdCells', WHERE WHAT IT READS IS OF BULK AT MOST 1048576: true; the input reads as it did. -/
def fnExactEdCellsUptoRow : OpenClaim := { program := "ytllhcdkbgknjdaadoor", sum := "94d2836d4bf1b6f149cb1c9e53b7df7a76f6c898adb2caa0c2cefcb80549aaf1", func := "loop.example/g00711/laws.FnExactEdCells", spec := "fnExactEdCells", inPlace := ["internal/bytealg.IndexByteString"], unfollowed := true, recurses := true, named := ["loop.example/g00711/impl.kinds", "loop.example/g00711/impl.codes"], apart := false, laid := [("loop.example/g00711/impl.codes", laid_loop_example_g00711_impl_codes), ("loop.example/g00711/impl.kinds", laid_loop_example_g00711_impl_kinds)], narrowed := true }
def FnExactEdCellsUptoSaid : Prop := fnExactEdCellsUptoRow.holds Tryd.pinned (OpenSpec.upto fnExactEdCellsSpec)

end Rows
end Go.Proofs.YtllhcdkbgknjdaaDoor
