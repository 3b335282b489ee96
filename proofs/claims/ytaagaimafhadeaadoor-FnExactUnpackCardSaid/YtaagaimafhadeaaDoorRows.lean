/-
  NARROWER THAN 'FOR EVERY INPUT', by the rows' own cells (each row's printed sentence says how): FnPack: laid · FnFields: laid · FnExactPackOne: laid · FnExactPack: laid · FnExactUnpackOne: laid · FnExactFieldOk: laid · FnExactUnpack: laid.
  DERIVED. THE GIVEN ROWS OF THIS SEAT. 7 by the template 'for every input the law returns true; each argument reads behind the call as it read before'; 0 by the template 'total and deterministic' (their statements: YtaagaimafhadeaaDoorTotals.lean).
  GIVEN WITH THE SEED: the statements are not yours to turn. If you find one false, say at which input.
  Laid BY PROGRAM, IN A SANDBOX (cutbox-rows.mjs): the forced cells as the released guide's own fill.sh prints them over the translation 4d3738f6831818c6… (all of the seat's roots in one cut). By AI agents, Wed Nov 11 2026. No macro, syntax, notation, axiom, sorry.
-/
import Derived.Test.YtaagaimafhadeaaDoorChecked
import GoSem.Claim
import GoSem.ClaimJoined
import GoSem.ClaimMapViews
import Derived.JoinedTies
import Derived.KernelRfl
namespace Go.Proofs.YtaagaimafhadeaaDoor
/- THE CELL 'sum', in the pinned program and in every row, IS THE sha256 OF THE DUMP (.gsa) THAT YtaagaimafhadeaaDoorProg.lean LOADS. Nothing in Lean hashes anything: it is a label: what it is worth is what the hold of that sum in a sandbox is worth. -/
noncomputable def Tryd.pinned : Pinned := { name := "ytaagaimafhadeaadoor", sum := "4d3738f6831818c60208e0c4160b41d7aa0e1238faeeeb26eb14b7f3d2ecad62", checked := Tryd.checked }
namespace Rows
def none {H : Type} : Left H := { results := [], args := [] }

/- WHAT THE LISTED PACKAGE-LEVEL VARIABLES READ AS WHEN THE CALL BEGINS. Each datum BY PROGRAM (the guide's laid-datum.mjs) off the statement by which the dump's own 'gosem.cut.vars' lays the variable. In a bare row this is a premise. The card (YtaagaimafhadeaaDoorCards.lean) ties it to the program's text. -/
def laid_loop_example_g00711_impl_codes {H : Type} : DataW H := .agg [.lit (.int .u8 0), .lit (.int .u8 1), .lit (.int .u8 2), .lit (.int .u8 3), .lit (.int .u8 4), .lit (.int .u8 5), .lit (.int .u8 6), .lit (.int .u8 7), .lit (.int .u8 16), .lit (.int .u8 17), .lit (.int .u8 18), .lit (.int .u8 19), .lit (.int .u8 20), .lit (.int .u8 21), .lit (.int .u8 22), .lit (.int .u8 23), .lit (.int .u8 96), .lit (.int .u8 97), .lit (.int .u8 98), .lit (.int .u8 99), .lit (.int .u8 100), .lit (.int .u8 101), .lit (.int .u8 102), .lit (.int .u8 103), .lit (.int .u8 104), .lit (.int .u8 105), .lit (.int .u8 106), .lit (.int .u8 107), .lit (.int .u8 108), .lit (.int .u8 109), .lit (.int .u8 110), .lit (.int .u8 111), .lit (.int .u8 112), .lit (.int .u8 113), .lit (.int .u8 114), .lit (.int .u8 115), .lit (.int .u8 116), .lit (.int .u8 117), .lit (.int .u8 118), .lit (.int .u8 119), .lit (.int .u8 120), .lit (.int .u8 121), .lit (.int .u8 122), .lit (.int .u8 123), .lit (.int .u8 124), .lit (.int .u8 125), .lit (.int .u8 126), .lit (.int .u8 127)]

/-- 'laws.FnPack': WHATEVER THE INPUT: true; the input reads as it did. -/
def fnPackSpec : ChangeSpec := { name := "fnPack", vars := ["loop.example/g00711/impl.codes"], fn := fun _ => fun
  | [d, g1] => { results := [.lit (.bool true)], args := [d], vars := [g1] }
  | _ => none }
def fnPackRow : OpenClaim := { program := "ytaagaimafhadeaadoor", sum := "4d3738f6831818c60208e0c4160b41d7aa0e1238faeeeb26eb14b7f3d2ecad62", func := "loop.example/g00711/laws.FnPack", spec := "fnPack", inPlace := ["internal/bytealg.IndexByteString"], named := ["loop.example/g00711/impl.codes"], apart := false, laid := [("loop.example/g00711/impl.codes", laid_loop_example_g00711_impl_codes)] }
def FnPackSaid : Prop := fnPackRow.holds Tryd.pinned (OpenSpec.ofChange fnPackSpec)

/-- ITS FALSE NEIGHBOUR: 'it returns false'. Refute it at one input. -/
def fnPackWrong : ChangeSpec := { name := "fnPack", vars := ["loop.example/g00711/impl.codes"], fn := fun _ => fun
  | [d, g1] => { results := [.lit (.bool false)], args := [d], vars := [g1] }
  | _ => none }
def FnPackWrongFalsely : Prop := fnPackRow.holds Tryd.pinned (OpenSpec.ofChange fnPackWrong)

/-- 'laws.FnFields': WHATEVER THE INPUT: true; the input reads as it did. -/
def fnFieldsSpec : ChangeSpec := { name := "fnFields", vars := ["loop.example/g00711/impl.codes"], fn := fun _ => fun
  | [d, g1] => { results := [.lit (.bool true)], args := [d], vars := [g1] }
  | _ => none }
def fnFieldsRow : OpenClaim := { program := "ytaagaimafhadeaadoor", sum := "4d3738f6831818c60208e0c4160b41d7aa0e1238faeeeb26eb14b7f3d2ecad62", func := "loop.example/g00711/laws.FnFields", spec := "fnFields", inPlace := ["internal/bytealg.IndexByteString"], named := ["loop.example/g00711/impl.codes"], apart := false, laid := [("loop.example/g00711/impl.codes", laid_loop_example_g00711_impl_codes)] }
def FnFieldsSaid : Prop := fnFieldsRow.holds Tryd.pinned (OpenSpec.ofChange fnFieldsSpec)

/-- ITS FALSE NEIGHBOUR: 'it returns false'. Refute it at one input. -/
def fnFieldsWrong : ChangeSpec := { name := "fnFields", vars := ["loop.example/g00711/impl.codes"], fn := fun _ => fun
  | [d, g1] => { results := [.lit (.bool false)], args := [d], vars := [g1] }
  | _ => none }
def FnFieldsWrongFalsely : Prop := fnFieldsRow.holds Tryd.pinned (OpenSpec.ofChange fnFieldsWrong)

/-- 'laws.FnExactPackOne': WHATEVER THE INPUT: true; the input reads as it did. -/
def fnExactPackOneSpec : ChangeSpec := { name := "fnExactPackOne", vars := ["loop.example/g00711/impl.codes"], fn := fun _ => fun
  | [d, g1] => { results := [.lit (.bool true)], args := [d], vars := [g1] }
  | _ => none }
def fnExactPackOneRow : OpenClaim := { program := "ytaagaimafhadeaadoor", sum := "4d3738f6831818c60208e0c4160b41d7aa0e1238faeeeb26eb14b7f3d2ecad62", func := "loop.example/g00711/laws.FnExactPackOne", spec := "fnExactPackOne", inPlace := ["internal/bytealg.IndexByteString"], named := ["loop.example/g00711/impl.codes"], apart := false, laid := [("loop.example/g00711/impl.codes", laid_loop_example_g00711_impl_codes)] }
def FnExactPackOneSaid : Prop := fnExactPackOneRow.holds Tryd.pinned (OpenSpec.ofChange fnExactPackOneSpec)

/-- ITS FALSE NEIGHBOUR: 'it returns false'. Refute it at one input. -/
def fnExactPackOneWrong : ChangeSpec := { name := "fnExactPackOne", vars := ["loop.example/g00711/impl.codes"], fn := fun _ => fun
  | [d, g1] => { results := [.lit (.bool false)], args := [d], vars := [g1] }
  | _ => none }
def FnExactPackOneWrongFalsely : Prop := fnExactPackOneRow.holds Tryd.pinned (OpenSpec.ofChange fnExactPackOneWrong)

/-- 'laws.FnExactPack': WHATEVER THE INPUT: true; the input reads as it did. -/
def fnExactPackSpec : ChangeSpec := { name := "fnExactPack", vars := ["loop.example/g00711/impl.codes"], fn := fun _ => fun
  | [d, g1] => { results := [.lit (.bool true)], args := [d], vars := [g1] }
  | _ => none }
def fnExactPackRow : OpenClaim := { program := "ytaagaimafhadeaadoor", sum := "4d3738f6831818c60208e0c4160b41d7aa0e1238faeeeb26eb14b7f3d2ecad62", func := "loop.example/g00711/laws.FnExactPack", spec := "fnExactPack", inPlace := ["internal/bytealg.IndexByteString"], named := ["loop.example/g00711/impl.codes"], apart := false, laid := [("loop.example/g00711/impl.codes", laid_loop_example_g00711_impl_codes)] }
def FnExactPackSaid : Prop := fnExactPackRow.holds Tryd.pinned (OpenSpec.ofChange fnExactPackSpec)

/-- ITS FALSE NEIGHBOUR: 'it returns false'. Refute it at one input. -/
def fnExactPackWrong : ChangeSpec := { name := "fnExactPack", vars := ["loop.example/g00711/impl.codes"], fn := fun _ => fun
  | [d, g1] => { results := [.lit (.bool false)], args := [d], vars := [g1] }
  | _ => none }
def FnExactPackWrongFalsely : Prop := fnExactPackRow.holds Tryd.pinned (OpenSpec.ofChange fnExactPackWrong)

/-- 'laws.FnExactUnpackOne': WHATEVER THE INPUT: true; the input reads as it did. -/
def fnExactUnpackOneSpec : ChangeSpec := { name := "fnExactUnpackOne", vars := ["loop.example/g00711/impl.codes"], fn := fun _ => fun
  | [d, g1] => { results := [.lit (.bool true)], args := [d], vars := [g1] }
  | _ => none }
def fnExactUnpackOneRow : OpenClaim := { program := "ytaagaimafhadeaadoor", sum := "4d3738f6831818c60208e0c4160b41d7aa0e1238faeeeb26eb14b7f3d2ecad62", func := "loop.example/g00711/laws.FnExactUnpackOne", spec := "fnExactUnpackOne", named := ["loop.example/g00711/impl.codes"], apart := false, laid := [("loop.example/g00711/impl.codes", laid_loop_example_g00711_impl_codes)] }
def FnExactUnpackOneSaid : Prop := fnExactUnpackOneRow.holds Tryd.pinned (OpenSpec.ofChange fnExactUnpackOneSpec)

/-- ITS FALSE NEIGHBOUR: 'it returns false'. Refute it at one input. -/
def fnExactUnpackOneWrong : ChangeSpec := { name := "fnExactUnpackOne", vars := ["loop.example/g00711/impl.codes"], fn := fun _ => fun
  | [d, g1] => { results := [.lit (.bool false)], args := [d], vars := [g1] }
  | _ => none }
def FnExactUnpackOneWrongFalsely : Prop := fnExactUnpackOneRow.holds Tryd.pinned (OpenSpec.ofChange fnExactUnpackOneWrong)

/-- 'laws.FnExactFieldOk': WHATEVER THE INPUT: true; the input reads as it did. -/
def fnExactFieldOkSpec : ChangeSpec := { name := "fnExactFieldOk", vars := ["loop.example/g00711/impl.codes"], fn := fun _ => fun
  | [d, g1] => { results := [.lit (.bool true)], args := [d], vars := [g1] }
  | _ => none }
def fnExactFieldOkRow : OpenClaim := { program := "ytaagaimafhadeaadoor", sum := "4d3738f6831818c60208e0c4160b41d7aa0e1238faeeeb26eb14b7f3d2ecad62", func := "loop.example/g00711/laws.FnExactFieldOk", spec := "fnExactFieldOk", inPlace := ["internal/bytealg.IndexByteString"], named := ["loop.example/g00711/impl.codes"], apart := false, laid := [("loop.example/g00711/impl.codes", laid_loop_example_g00711_impl_codes)] }
def FnExactFieldOkSaid : Prop := fnExactFieldOkRow.holds Tryd.pinned (OpenSpec.ofChange fnExactFieldOkSpec)

/-- ITS FALSE NEIGHBOUR: 'it returns false'. Refute it at one input. -/
def fnExactFieldOkWrong : ChangeSpec := { name := "fnExactFieldOk", vars := ["loop.example/g00711/impl.codes"], fn := fun _ => fun
  | [d, g1] => { results := [.lit (.bool false)], args := [d], vars := [g1] }
  | _ => none }
def FnExactFieldOkWrongFalsely : Prop := fnExactFieldOkRow.holds Tryd.pinned (OpenSpec.ofChange fnExactFieldOkWrong)

/-- 'laws.FnExactUnpack': WHATEVER THE INPUT: true; the input reads as it did. -/
def fnExactUnpackSpec : ChangeSpec := { name := "fnExactUnpack", vars := ["loop.example/g00711/impl.codes"], fn := fun _ => fun
  | [d, g1] => { results := [.lit (.bool true)], args := [d], vars := [g1] }
  | _ => none }
def fnExactUnpackRow : OpenClaim := { program := "ytaagaimafhadeaadoor", sum := "4d3738f6831818c60208e0c4160b41d7aa0e1238faeeeb26eb14b7f3d2ecad62", func := "loop.example/g00711/laws.FnExactUnpack", spec := "fnExactUnpack", inPlace := ["internal/bytealg.IndexByteString"], named := ["loop.example/g00711/impl.codes"], apart := false, laid := [("loop.example/g00711/impl.codes", laid_loop_example_g00711_impl_codes)] }
def FnExactUnpackSaid : Prop := fnExactUnpackRow.holds Tryd.pinned (OpenSpec.ofChange fnExactUnpackSpec)

/-- ITS FALSE NEIGHBOUR: 'it returns false'. Refute it at one input. -/
def fnExactUnpackWrong : ChangeSpec := { name := "fnExactUnpack", vars := ["loop.example/g00711/impl.codes"], fn := fun _ => fun
  | [d, g1] => { results := [.lit (.bool false)], args := [d], vars := [g1] }
  | _ => none }
def FnExactUnpackWrongFalsely : Prop := fnExactUnpackRow.holds Tryd.pinned (OpenSpec.ofChange fnExactUnpackWrong)

/- THE SECOND FORM. 'bulk': how many values and letters a reading holds, each counted each time it is reached (what is shared counts as often as it is met; a slice's spare places count too). A statement '..UptoSaid' is the law's where the arguments, and the package variables that the reading takes, are together of bulk at most 1048576: NARROWER than '..Said'. Prove '..Said' where nothing that the law and all that it calls make is longer than what came in: it says more and counts as full. Else prove '..UptoSaid'. A law counts once. -/
mutual
def uptoBulk {H : Type} : DataW H → Nat
  | .lit (.string bytes) => bytes.length + 1
  | .lit _ => 1
  | .nil => 1
  | .ptr d => uptoBulk d + 1
  | .slice elems spare => uptoBulkAll elems + uptoBulkAll spare + 1
  | .agg parts => uptoBulkAll parts + 1
  | .iface _ d => uptoBulk d + 1
  | .map entries => uptoBulkEntries entries + 1
  | .held _ => 1
def uptoBulkAll {H : Type} : List (DataW H) → Nat
  | [] => 0
  | d :: r => uptoBulk d + uptoBulkAll r
def uptoBulkEntries {H : Type} : List (Lit × DataW H) → Nat
  | [] => 0
  | x :: r => uptoBulkEntry x + uptoBulkEntries r
def uptoBulkEntry {H : Type} : Lit × DataW H → Nat
  | (.string bytes, d) => bytes.length + uptoBulk d + 1
  | (_, d) => uptoBulk d + 1
 end
def uptoSmall : (H : Type) → List (DataW H) → Bool := fun _ ds => decide (uptoBulkAll ds ≤ 1048576)
def OpenSpec.upto (s : _root_.Go.ChangeSpec) : _root_.Go.OpenSpec := { _root_.Go.OpenSpec.ofChange s with cond := some uptoSmall }

/-- 'laws.FnPack', WHERE WHAT IT READS IS OF BULK AT MOST 1048576: true; the input reads as it did. -/
def fnPackUptoRow : OpenClaim := { program := "ytaagaimafhadeaadoor", sum := "4d3738f6831818c60208e0c4160b41d7aa0e1238faeeeb26eb14b7f3d2ecad62", func := "loop.example/g00711/laws.FnPack", spec := "fnPack", inPlace := ["internal/bytealg.IndexByteString"], named := ["loop.example/g00711/impl.codes"], apart := false, laid := [("loop.example/g00711/impl.codes", laid_loop_example_g00711_impl_codes)], narrowed := true }
def FnPackUptoSaid : Prop := fnPackUptoRow.holds Tryd.pinned (OpenSpec.upto fnPackSpec)

/-- 'laws.FnFields', WHERE WHAT IT READS IS OF BULK AT MOST 1048576: true; the input reads as it did. -/
def fnFieldsUptoRow : OpenClaim := { program := "ytaagaimafhadeaadoor", sum := "4d3738f6831818c60208e0c4160b41d7aa0e1238faeeeb26eb14b7f3d2ecad62", func := "loop.example/g00711/laws.FnFields", spec := "fnFields", inPlace := ["internal/bytealg.IndexByteString"], named := ["loop.example/g00711/impl.codes"], apart := false, laid := [("loop.example/g00711/impl.codes", laid_loop_example_g00711_impl_codes)], narrowed := true }
def FnFieldsUptoSaid : Prop := fnFieldsUptoRow.holds Tryd.pinned (OpenSpec.upto fnFieldsSpec)

/-- 'laws.FnExactPackOne', WHERE WHAT IT READS IS OF BULK AT MOST 1048576: true; the input reads as it did. -/
def fnExactPackOneUptoRow : OpenClaim := { program := "ytaagaimafhadeaadoor", sum := "4d3738f6831818c60208e0c4160b41d7aa0e1238faeeeb26eb14b7f3d2ecad62", func := "loop.example/g00711/laws.FnExactPackOne", spec := "fnExactPackOne", inPlace := ["internal/bytealg.IndexByteString"], named := ["loop.example/g00711/impl.codes"], apart := false, laid := [("loop.example/g00711/impl.codes", laid_loop_example_g00711_impl_codes)], narrowed := true }
def FnExactPackOneUptoSaid : Prop := fnExactPackOneUptoRow.holds Tryd.pinned (OpenSpec.upto fnExactPackOneSpec)

/-- 'laws.FnExactPack', WHERE WHAT IT READS IS OF BULK AT MOST 1048576: true; the input reads as it did. -/
def fnExactPackUptoRow : OpenClaim := { program := "ytaagaimafhadeaadoor", sum := "4d3738f6831818c60208e0c4160b41d7aa0e1238faeeeb26eb14b7f3d2ecad62", func := "loop.example/g00711/laws.FnExactPack", spec := "fnExactPack", inPlace := ["internal/bytealg.IndexByteString"], named := ["loop.example/g00711/impl.codes"], apart := false, laid := [("loop.example/g00711/impl.codes", laid_loop_example_g00711_impl_codes)], narrowed := true }
def FnExactPackUptoSaid : Prop := fnExactPackUptoRow.holds Tryd.pinned (OpenSpec.upto fnExactPackSpec)

/-- 'laws.FnExactUnpackOne', WHERE WHAT IT READS IS OF BULK AT MOST 1048576: true; the input reads as it did. -/
def fnExactUnpackOneUptoRow : OpenClaim := { program := "ytaagaimafhadeaadoor", sum := "4d3738f6831818c60208e0c4160b41d7aa0e1238faeeeb26eb14b7f3d2ecad62", func := "loop.example/g00711/laws.FnExactUnpackOne", spec := "fnExactUnpackOne", named := ["loop.example/g00711/impl.codes"], apart := false, laid := [("loop.example/g00711/impl.codes", laid_loop_example_g00711_impl_codes)], narrowed := true }
def FnExactUnpackOneUptoSaid : Prop := fnExactUnpackOneUptoRow.holds Tryd.pinned (OpenSpec.upto fnExactUnpackOneSpec)

/-- 'laws.FnExactFieldOk', WHERE WHAT IT READS IS OF BULK AT MOST 1048576: true; the input reads as it did. -/
def fnExactFieldOkUptoRow : OpenClaim := { program := "ytaagaimafhadeaadoor", sum := "4d3738f6831818c60208e0c4160b41d7aa0e1238faeeeb26eb14b7f3d2ecad62", func := "loop.example/g00711/laws.FnExactFieldOk", spec := "fnExactFieldOk", inPlace := ["internal/bytealg.IndexByteString"], named := ["loop.example/g00711/impl.codes"], apart := false, laid := [("loop.example/g00711/impl.codes", laid_loop_example_g00711_impl_codes)], narrowed := true }
def FnExactFieldOkUptoSaid : Prop := fnExactFieldOkUptoRow.holds Tryd.pinned (OpenSpec.upto fnExactFieldOkSpec)

/-- 'laws.FnExactUnpack', WHERE WHAT IT READS IS OF BULK AT MOST 1048576: true; the input reads as it did. -/
def fnExactUnpackUptoRow : OpenClaim := { program := "ytaagaimafhadeaadoor", sum := "4d3738f6831818c60208e0c4160b41d7aa0e1238faeeeb26eb14b7f3d2ecad62", func := "loop.example/g00711/laws.FnExactUnpack", spec := "fnExactUnpack", inPlace := ["internal/bytealg.IndexByteString"], named := ["loop.example/g00711/impl.codes"], apart := false, laid := [("loop.example/g00711/impl.codes", laid_loop_example_g00711_impl_codes)], narrowed := true }
def FnExactUnpackUptoSaid : Prop := fnExactUnpackUptoRow.holds Tryd.pinned (OpenSpec.upto fnExactUnpackSpec)

end Rows
end Go.Proofs.YtaagaimafhadeaaDoor
