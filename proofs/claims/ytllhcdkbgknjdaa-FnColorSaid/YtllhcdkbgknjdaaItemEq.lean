/-
  Whether two items are alike; what kind of shape an item has.
-/
import Derived.Test.YtllhcdkbgknjdaaItemWord
import Derived.Test.YtllhcdkbgknjdaaItemNum
import Derived.Test.YtllhcdkbgknjdaaItemVar
import Derived.Test.YtllhcdkbgknjdaaItemRaw
import Derived.Test.YtllhcdkbgknjdaaCellsNum2
import Derived.Test.YtllhcdkbgknjdaaCellsWord
import Derived.Laws.StructEq
namespace Go.Proofs.Ytllhcdkbgknjdaa
open Go.RowKit Go

theorem item_eql_raw (w : World) (k1 : Int) (nm1 : ByteArray) (n1 : Int) (x1 : Bool) (r1 : Int) (k2 : Int) (nm2 : ByteArray) (n2 : Int) (x2 : Bool) (r2 : Int) :
    (binOp .eql 26 (itA k1 nm1 n1 x1 r1) (itA k2 nm2 n2 x2 r2)).run Try.prog w = .ok (.bool (k1 == k2 && (nm1.toList == nm2.toList && (n1 == n2 && (x1 == x2 && r1 == r2))))) w := by
  simp [go_sem, Try.underlying26, Try.underlying3, Try.underlying9, Try.underlying21, Try.underlying4, Try.underlying24]
  (repeat' split) <;> simp_all
theorem item_neq_raw (w : World) (k1 : Int) (nm1 : ByteArray) (n1 : Int) (x1 : Bool) (r1 : Int) (k2 : Int) (nm2 : ByteArray) (n2 : Int) (x2 : Bool) (r2 : Int) :
    (binOp .neq 26 (itA k1 nm1 n1 x1 r1) (itA k2 nm2 n2 x2 r2)).run Try.prog w = .ok (.bool (!(k1 == k2 && (nm1.toList == nm2.toList && (n1 == n2 && (x1 == x2 && r1 == r2)))))) w := by
  simp [go_sem, Try.underlying26, Try.underlying3, Try.underlying9, Try.underlying21, Try.underlying4, Try.underlying24]
  (repeat' split) <;> simp_all
theorem text_inj {a b : ByteArray} : a.toList = b.toList ↔ a = b := by
  rw [ByteArray.toList_eq, ByteArray.toList_eq]
  exact ⟨fun h => Go.WideShapes.bytes_inj h, fun h => by rw [h]⟩
theorem same_iff (a b : It) : (a.kind == b.kind && (a.name.toList == b.name.toList && (a.n == b.n && (a.hex == b.hex && (a.raw : Int) == (b.raw : Int))))) = decide (a = b) := by
  obtain ⟨k1, nm1, n1, x1, r1⟩ := a
  obtain ⟨k2, nm2, n2, x2, r2⟩ := b
  rw [Bool.eq_iff_iff]
  simp [text_inj]
  intro _ _ _ _
  omega
/-- The value of an item. -/
abbrev itVal (a : It) : Value := itA a.kind a.name a.n a.hex (a.raw : Int)
theorem item_eql (w : World) (a b : It) : (binOp .eql 26 (itVal a) (itVal b)).run Try.prog w = .ok (.bool (decide (a = b))) w := by rw [item_eql_raw, same_iff]
theorem item_neq (w : World) (a b : It) : (binOp .neq 26 (itVal a) (itVal b)).run Try.prog w = .ok (.bool (!decide (a = b))) w := by rw [item_neq_raw, same_iff]

theorem isword_any (k : Int) (w : World) : Calls Try.prog 26 #[.int .i64 k] w fun e w' => e = .returned (.bool (wordK k)) ∧ w = w' := by
  by_cases h1 : 1 ≤ k
  · by_cases h2 : k ≤ 6
    · have e : wordK k = true := decide_eq_true ⟨h1, h2⟩
      rw [e]
      clear e
      go_enter Try.func26, Try.ntmps26
      go_wp2_with fail
      go_ret
      exact ⟨rfl, rfl⟩
    · have e : wordK k = false := decide_eq_false (by omega)
      rw [e]
      clear e
      go_enter Try.func26, Try.ntmps26
      go_wp2_with fail
      go_ret
      exact ⟨rfl, rfl⟩
  · have e : wordK k = false := decide_eq_false (by omega)
    rw [e]
    clear e
    go_enter Try.func26, Try.ntmps26
    go_wp2_with fail
    go_ret
    exact ⟨rfl, rfl⟩
theorem isnumber_any (k : Int) (w : World) : Calls Try.prog 27 #[.int .i64 k] w fun e w' => e = .returned (.bool (numK k)) ∧ w = w' := by
  by_cases h1 : k = 7
  · have e : numK k = true := decide_eq_true (by omega)
    have b1 : (k == 7) = true := by simpa using h1
    rw [e]
    clear e h1
    go_enter Try.func27, Try.ntmps27
    go_wp2_with fail
    go_ret
    exact ⟨rfl, rfl⟩
  · have b1 : (k == 7) = false := by simpa using h1
    by_cases h2 : k = 8
    · have e : numK k = true := decide_eq_true (by omega)
      have b2 : (k == 8) = true := by simpa using h2
      rw [e]
      clear e h1 h2
      go_enter Try.func27, Try.ntmps27
      go_wp2_with fail
      go_ret
      exact ⟨rfl, rfl⟩
    · have b2 : (k == 8) = false := by simpa using h2
      have e : numK k = false := decide_eq_false (by omega)
      rw [e]
      clear e h1 h2
      go_enter Try.func27, Try.ntmps27
      go_wp2_with fail
      go_ret
      exact ⟨rfl, rfl⟩
end Go.Proofs.Ytllhcdkbgknjdaa
