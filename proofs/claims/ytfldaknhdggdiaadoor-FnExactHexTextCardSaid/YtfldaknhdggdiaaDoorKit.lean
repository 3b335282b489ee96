/-
  What the walks of this seat import.
-/
import Derived.Test.YtfldaknhdggdiaaDoorProg
import Derived.WalkKit
import Derived.WalkSpells
import Derived.WalkSmall
import Derived.Lib.Hide
import Derived.LoopTactic
import Derived.BigQuiet
import Derived.Deep.QuietTactic
namespace Go.Proofs.YtfldaknhdggdiaaDoor
theorem u8_le (c : UInt8) : c.toNat ≤ 255 := by have := c.toNat_lt; omega
end Go.Proofs.YtfldaknhdggdiaaDoor
