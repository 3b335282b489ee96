/-
  spec.l08Put in one; the size of what it makes.
-/
import Derived.Test.YtlkkobffgbjkpaaSpecPut
namespace Go.Proofs.Ytlkkobffgbjkpaa
open Go.RowKit Go

theorem rdI_new (w : World) (t : TypeId) (ys : List Int) (hl : ys.length ≤ 1000) : RdI (w.alloc (.cells (ys.map iv).toArray t)) (.slice (some ⟨w.heap.size, 0, none⟩) ys.length ys.length) ys := by
  refine ⟨_, _, rfl, by omega, fun i hi => ⟨⟨w.heap.size, 0, none⟩, rfl, by simp, ?_⟩⟩
  rw [addr_lit, Nat.zero_add, cell_of_row _ w.heap.size i (ys.map iv).toArray t (0, 0) (heap_alloc_new w _)]
  simp [hi]
theorem own_nil {w : World} {lo hi : Nat} : OwnSt w lo hi (.slice none 0 0) (.slice none 0 0) (.slice none 0 0) (.slice none 0 0) (.slice none 0 0) (.slice none 0 0) (.slice none 0 0) zero8 := by
  refine ⟨fun x hx k hk => ?_, .inl rfl, .inl rfl, World.ownsRow_nil _ _ _ _, World.ownsRow_nil _ _ _ _, World.ownsRow_nil _ _ _ _, World.ownsRow_nil _ _ _ _, World.ownsRow_nil _ _ _ _, World.ownsRow_nil _ _ _ _, ⟨rfl, .inl ⟨rfl, rfl⟩⟩⟩
  simp only [List.mem_cons, List.not_mem_nil, or_false, or_self] at hx
  subst hx
  simp [Value.ownBlock] at hk
theorem newst_zero {w W : World} (hb : Below w.heap.size w W) : NewSt w zero8 (.returned (.agg #[.slice none 0 0, .slice none 0 0, .int .i32 0, .slice none 0 0, .slice none 0 0, .slice none 0 0, .slice none 0 0, .slice none 0 0, .int .i64 0, .int .i64 0])) W :=
  ⟨_, _, _, _, _, _, _, rfl, own_nil, hb⟩
theorem put8_tot {S : S8} {t : Nat} {l : List Int} (hs : totSt S ≤ 2500000) : totSt (fin8 S (put8 S t l)) ≤ 4000000 := by
  unfold put8
  split
  · exact Nat.le_trans hs (by omega)
  · rename_i h
    unfold totSt at hs
    unfold fin8 totSt
    simp only [List.length_append, List.length_take]
    omega
theorem push8_tot (S : S8) (y : Int) (hs : totSt S ≤ 2500000) : totSt (push8 S y) ≤ 4000000 := by
  unfold push8
  split
  · split
    · exact put8_tot hs
    · omega
  · exact Nat.zero_le _
end Go.Proofs.Ytlkkobffgbjkpaa
