/-
  impl.parts hands back a function that tells the parts: as a loop over it asks; which signs are newlines, which are blanks.
-/
import Derived.Test.YtfldaknhdggdiaaParts
namespace Go.Proofs.Ytfldaknhdggdiaa
open Go.RowKit Go.Shelf Go

attribute [local go_sem] Oper.semAt_some

def qNl (r : Int) : Bool := r == 10
def qSp (r : Int) : Bool := r == 32 || r == 10 || r == 9
theorem cuts_nl : Cuts 22 qNl := ⟨fun r w _ _ => by
  go_enter Try.func22, Try.ntmps22
  go_wp2
  go_ret
  exact ⟨rfl, rfl⟩, fun r h => by simp [qNl]; omega⟩
theorem cuts_sp : Cuts 21 qSp := ⟨fun r w _ _ => by
  by_cases h1 : r = 32
  · subst h1
    go_enter Try.func21, Try.ntmps21
    go_wp2
    go_ret
    exact ⟨rfl, rfl⟩
  · have h1' : (r == 32) = false := by simpa using h1
    by_cases h2 : r = 10
    · subst h2
      go_enter Try.func21, Try.ntmps21
      go_wp2
      go_ret
      exact ⟨rfl, rfl⟩
    · have h2' : (r == 10) = false := by simpa using h2
      have hq : qSp r = (r == 9) := by simp [qSp, h1, h2]
      rw [hq]
      clear hq h1 h2
      go_enter Try.func21, Try.ntmps21
      go_wp2
      go_ret
      exact ⟨rfl, rfl⟩, fun r h => by simp [qSp]; omega⟩

/-- The world behind a call of parts: the text and the function that tells what cuts are boxed. -/
def boxed2 (w : World) (s : ByteArray) (kf : Nat) : World := (w.alloc (.cells #[.string s] 9)).alloc (.cells #[.func (.func kf) #[] #[]] 37)
theorem parts_any (s : ByteArray) (kf : Nat) (w : World) :
    Calls Try.prog 20 #[.string s, .func (.func kf) #[] #[]] w fun e w' => e = .returned (.func (.func 26) #[] #[.pointer (some ⟨w.heap.size, 0, none⟩), .pointer (some ⟨w.heap.size + 1, 0, none⟩)]) ∧ w' = boxed2 w s kf := by
  go_enter Try.func20, Try.ntmps20
  go_wp2
  go_ret
  exact ⟨rfl, rfl⟩
theorem boxed2_g1 (w : World) (s : ByteArray) (kf : Nat) : (boxed2 w s kf).cell? ⟨w.heap.size, 0, none⟩ = some (.string s) := by
  unfold boxed2
  rw [World.cell?_alloc_lt _ _ _ (by simp), World.cell?_alloc_new]
  rfl
theorem boxed2_g2 (w : World) (s : ByteArray) (kf : Nat) : (boxed2 w s kf).cell? ⟨w.heap.size + 1, 0, none⟩ = some (.func (.func kf) #[] #[]) := by
  unfold boxed2
  have e : w.heap.size + 1 = (w.alloc (.cells #[.string s] 9)).heap.size := by simp
  rw [e, World.cell?_alloc_new]
  rfl
theorem boxed2_size (w : World) (s : ByteArray) (kf : Nat) : (boxed2 w s kf).heap.size = w.heap.size + 2 := by simp [boxed2]
theorem boxed2_below (w : World) (s : ByteArray) (kf : Nat) : Below w.heap.size w (boxed2 w s kf) := ((Below.refl _ w).alloc (Nat.le_refl _) _).alloc (by simp) _

theorem stops_nl (n : Nat) (hn : 1 ≤ n) (s : ByteArray) (hs : s.size ≤ 1048576) (w0 w : World) (b : Nat) (hb : b < w.heap.size) (hw : w0 = boxed2 w s 22) :
    SeqStopsK Fence.wide n Try.prog 26 #[.pointer (some ⟨w.heap.size, 0, none⟩), .pointer (some ⟨w.heap.size + 1, 0, none⟩)] (fun x : ByteArray => #[Value.string x]) (Kept b (w.heap.size + 2)) (fun ys => ys = partsOf qNl s) (fun pre => pre <+: partsOf qNl s) (partsOf qNl s).length w0 := fun l J Jx W hW hJ hJx hY h0 => by
  subst hw
  rw [boxed2_size] at hW
  exact parts1_nl qNl cuts_nl n l b (w.heap.size + 2) w.heap.size (w.heap.size + 1) hn s hs J Jx W hJ hJx hY ((hW.cell (p := ⟨w.heap.size, 0, none⟩) (by simp)).trans (boxed2_g1 w s _)) ((hW.cell (p := ⟨w.heap.size + 1, 0, none⟩) (by simp)).trans (boxed2_g2 w s _)) hb (by omega) (by omega) (by omega) (by have := hW.size; rw [boxed2_size] at this; omega) h0

theorem stops_sp (n : Nat) (hn : 1 ≤ n) (s : ByteArray) (hs : s.size ≤ 1048576) (w0 w : World) (b : Nat) (hb : b < w.heap.size) (hw : w0 = boxed2 w s 21) :
    SeqStopsK Fence.wide n Try.prog 26 #[.pointer (some ⟨w.heap.size, 0, none⟩), .pointer (some ⟨w.heap.size + 1, 0, none⟩)] (fun x : ByteArray => #[Value.string x]) (Kept b (w.heap.size + 2)) (fun ys => ys = partsOf qSp s) (fun pre => pre <+: partsOf qSp s) (partsOf qSp s).length w0 := fun l J Jx W hW hJ hJx hY h0 => by
  subst hw
  rw [boxed2_size] at hW
  exact parts1_sp qSp cuts_sp n l b (w.heap.size + 2) w.heap.size (w.heap.size + 1) hn s hs J Jx W hJ hJx hY ((hW.cell (p := ⟨w.heap.size, 0, none⟩) (by simp)).trans (boxed2_g1 w s _)) ((hW.cell (p := ⟨w.heap.size + 1, 0, none⟩) (by simp)).trans (boxed2_g2 w s _)) hb (by omega) (by omega) (by omega) (by have := hW.size; rw [boxed2_size] at this; omega) h0
theorem kept_t {b n₀ : Nat} {A B C : World} (h : Kept b n₀ A B) (k : Kept b n₀ B C) : Kept b n₀ A C := ⟨h.1.trans k.1, h.2.trans k.2⟩
theorem kept_b {b n₀ : Nat} {w : World} (hn : n₀ ≤ w.heap.size) (W : World) (l : Nat) (o o' : Obj) (hl : w.heap.size ≤ l) (h : W.heap[l]? = some o) (hc : o.isCells = false) (hw : o.isWalk = false) : Kept b n₀ W (W.putObj l o') :=
  ⟨Mid.of (belowK_b hn W l o o' hl h hc hw) (Nat.le_refl _), walksK_b (w := w) W l o o' hl h hc hw⟩
/-- 'list = append(list, x)', list in a box b of its own ahead of the rows that the loop makes. -/
theorem appended2 {W w1 : World} {n₀ b : Nat} {t e : TypeId} {size : Nat} {v v' : Value} {k m : Nat} {xs ys : List Value} {tmp : Obj}
    (hv : Boxed W b t v) (hte : t ≠ e) (hrow : W.ownsRow n₀ e size v k xs) (hn₀ : n₀ ≤ W.heap.size) (hb : b < n₀)
    (hown' : w1.ownsRow n₀ e size v' m ys) (hgrow : (W.alloc tmp).grownBy w1 v.ownBlock) :
    Boxed w1 b t v ∧ Boxed (w1.setCell ⟨b, 0, none⟩ v') b t v' ∧ (w1.setCell ⟨b, 0, none⟩ v').ownsRow n₀ e size v' m ys ∧ KeepsOthers W (w1.setCell ⟨b, 0, none⟩ v') ∧ Mid b n₀ W (w1.setCell ⟨b, 0, none⟩ v') ∧ Below b W (w1.setCell ⟨b, 0, none⟩ v') := by
  have hlt : ∀ j, v.ownBlock = some j → n₀ ≤ j := fun j ej => by
    rcases hrow.2 with ⟨rfl, _⟩ | ⟨g, cap, cur, rfl, h1, _, _⟩
    · simp [Value.ownBlock] at ej
    · obtain rfl : g = j := by simpa [Value.ownBlock] using ej
      exact h1
  have hbel : Below n₀ W w1 := ((Below.refl n₀ W).alloc hn₀ tmp).grown hgrow (by simp; omega) hlt
  have hv1 : Boxed w1 b t v := hv.kept ⟨hbel.os, hbel.tape, hbel.output, hbel.size, fun i hi hne => (hgrow.block i (by simp; omega) hne).trans (Below.heap_alloc W tmp i hi)⟩ (hv.not_row hte hrow)
  refine ⟨hv1, hv1.set v', hown'.kept (grownBy_setCell' w1 b v') (.inr (hv1.not_row hte hown').symm), ?_, ?_, ?_⟩
  · refine ((KeepsOthers.alloc W tmp).trans (KeepsOthers.of_grownBy hgrow fun j o ej hj => ?_)).trans (KeepsOthers.setCell _ _ _)
    rcases (hrow.alloc tmp).2 with ⟨rfl, _⟩ | ⟨g, cap, cur, rfl, _, hgb, _⟩
    · simp [Value.ownBlock] at ej
    · obtain rfl : g = j := by simpa [Value.ownBlock] using ej
      rw [hgb] at hj; cases hj; rfl
  · exact (Mid.of hbel (Nat.le_refl _)).trans fun i h1 _ => Below.heap_setCell w1 ⟨b, 0, none⟩ v' i (by show i ≠ b; omega)
  · have h2 : Below b W w1 := hbel.mono (by omega)
    exact h2.setCell (p := ⟨b, 0, none⟩) (Nat.le_refl _) v'
end Go.Proofs.Ytfldaknhdggdiaa
