/-
  An item that comes in: what its five cells are.
-/
import Derived.Test.YtllhcdkbgknjdaaToItem
import Derived.HandedShaped
namespace Go.Proofs.Ytllhcdkbgknjdaa
open Go.RowKit Go

section
variable {P : Program} {w : World} {r : Reach} {base : Nat}
theorem cell_int {t : TypeId} {v : Value} {k : IntKind} (ht : P.underlying t = some (.int k)) (h : Cell.okWide P w r base t v) : ∃ n, v = .int k n ∧ k.has n := by
  unfold Cell.okWide at h
  rw [ht] at h
  unfold Cell.ok at h
  cases v <;> simp [ht] at h
  case int k' n => exact ⟨n, by rw [h.1], h.2⟩
theorem cell_bool {t : TypeId} {v : Value} (ht : P.underlying t = some .bool) (h : Cell.okWide P w r base t v) : ∃ b, v = .bool b := by
  unfold Cell.okWide at h
  rw [ht] at h
  unfold Cell.ok at h
  cases v <;> simp [ht] at h
  case bool b => exact ⟨b, rfl⟩
theorem cell_string {t : TypeId} {v : Value} (ht : P.underlying t = some .string) (h : Cell.okWide P w r base t v) : ∃ s : ByteArray, v = .string s ∧ s.size ≤ 9223372036854775807 := by
  unfold Cell.okWide at h
  rw [ht] at h
  unfold Cell.ok at h
  cases v <;> simp [ht] at h
  case string s =>
    refine ⟨s, rfl, ?_⟩
    have e : IntKind.i64.max = 9223372036854775807 := by decide
    omega
end
/-- What an item holds lies in its kinds' ranges. -/
def ItRange (k : Int) (nm : ByteArray) (n : Int) (r : Nat) : Prop := (-9223372036854775808 ≤ k ∧ k ≤ 9223372036854775807) ∧ (-2147483648 ≤ n ∧ n ≤ 2147483647) ∧ r < 4294967296 ∧ nm.size ≤ 9223372036854775807
theorem open_item {P : Program} {w : World} {rc : Reach} {base : Nat} {t a b c d e : TypeId} {fs : Array Field} {v : Value} (hu : P.underlying t = some (.struct fs)) (hC : P.cellsOf t = 5) (hT : P.cellTypes P.depth t = some [a, b, c, d, e])
    (ha : P.underlying a = some (.int .i64)) (hb : P.underlying b = some .string) (hc : P.underlying c = some (.int .i32)) (hd : P.underlying d = some .bool) (he : P.underlying e = some (.int .u32))
    (h : Value.okWide P w rc base t v) : ∃ (k : Int) (nm : ByteArray) (n : Int) (x : Bool) (r : Nat), v = itA k nm n x (r : Int) ∧ ItRange k nm n r := by
  unfold Value.okWide at h
  rw [hu] at h
  obtain ⟨cs, rfl, hsz, ts, hts, _, hall⟩ := h
  rw [hT] at hts
  cases hts
  obtain ⟨l⟩ := cs
  match l, hsz.trans hC with
  | [c0, c1, c2, c3, c4], _ =>
    obtain ⟨u0, e0, h0⟩ := hall 0 c0 rfl
    obtain ⟨u1, e1, h1⟩ := hall 1 c1 rfl
    obtain ⟨u2, e2, h2⟩ := hall 2 c2 rfl
    obtain ⟨u3, e3, h3⟩ := hall 3 c3 rfl
    obtain ⟨u4, e4, h4⟩ := hall 4 c4 rfl
    obtain rfl : a = u0 := Option.some.inj e0
    obtain rfl : b = u1 := Option.some.inj e1
    obtain rfl : c = u2 := Option.some.inj e2
    obtain rfl : d = u3 := Option.some.inj e3
    obtain rfl : e = u4 := Option.some.inj e4
    obtain ⟨k, rfl, r0⟩ := cell_int ha h0
    obtain ⟨nm, rfl, r1⟩ := cell_string hb h1
    obtain ⟨n, rfl, r2⟩ := cell_int hc h2
    obtain ⟨x, rfl⟩ := cell_bool hd h3
    obtain ⟨r, rfl, r4⟩ := cell_int he h4
    simp [IntKind.has, IntKind.min, IntKind.max, IntKind.signed, IntKind.bits] at r0 r2 r4
    refine ⟨k, nm, n, x, r.toNat, ?_, ⟨r0.1, r0.2⟩, ⟨r2.1, r2.2⟩, by omega, r1⟩
    show Value.agg #[.int .i64 k, .string nm, .int .i32 n, .bool x, .int .u32 r] = .agg #[.int .i64 k, .string nm, .int .i32 n, .bool x, .int .u32 ((r.toNat : Nat) : Int)]
    rw [show ((r.toNat : Nat) : Int) = r by omega]
set_option maxRecDepth 100000 in
theorem law_item {w : World} {rc : Reach} {base : Nat} {v : Value} (h : Value.okWide Try.prog w rc base 33 v) : ∃ (k : Int) (nm : ByteArray) (n : Int) (x : Bool) (r : Nat), v = itA k nm n x (r : Int) ∧ ItRange k nm n r :=
  open_item Try.underlying33 (by kernel_rfl) (by kernel_rfl) Try.underlying3 Try.underlying9 Try.underlying21 Try.underlying4 Try.underlying24 h
end Go.Proofs.Ytllhcdkbgknjdaa
