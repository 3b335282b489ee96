/-
  spec.Lines answers a new list: the lines of a text.
-/
import Derived.Test.YtfldaknhdggdiaaLinesImpl
namespace Go.Proofs.Ytfldaknhdggdiaa
open Go.RowKit Go

theorem At.skip1 {q : Int → Bool} {s : ByteArray} {pre : List ByteArray} {f pos : Nat} (h : At q s pre f pos) (hp : pos < s.size) (hn : q (s[pos].toNat : Int) = false) : At q s pre f (pos + 1) := by
  refine ⟨by have := h.fpos; omega, hp, h.told, fun j hj h1 h2 => ?_⟩
  rcases Nat.lt_or_ge j pos with h3 | h3
  · exact h.plain j hj h1 h3
  · obtain rfl : j = pos := by omega
    exact hn
theorem At.cut1 {q : Int → Bool} {s : ByteArray} {pre : List ByteArray} {f pos : Nat} (h : At q s pre f pos) (hp : pos < s.size) (hc : q (s[pos].toNat : Int) = true) : At q s (pre ++ [s.extract f pos]) (pos + 1) (pos + 1) := by
  refine ⟨Nat.le_refl _, by omega, ?_, fun j _ h1 h2 => by omega⟩
  rw [← h.told, split_at h.fpos (by rw [size_list]; exact hp) h.plain hc]
  simp [piece]
theorem own_lt {W : World} {base : Nat} {e : TypeId} {size : Nat} {v : Value} {n : Nat} {xs : List Value} (h : W.ownsRow base e size v n xs) : ∀ k, v.ownBlock = some k → base ≤ k := fun k hk => by
  rcases h.2 with ⟨rfl, _⟩ | ⟨g, cap, cur, rfl, h1, _, _⟩
  · simp [Value.ownBlock] at hk
  · obtain rfl : g = k := by simpa [Value.ownBlock] using hk
    exact h1
theorem own_empty (w : World) (e : TypeId) : (w.alloc (.cells #[] e)).ownsRow w.heap.size e 1 (.slice (some ⟨w.heap.size, 0, none⟩) 0 0) 0 [] :=
  ⟨rfl, .inr ⟨w.heap.size, 0, #[], rfl, Nat.le_refl _, heap_alloc_new w _, Nat.le_refl _, Nat.zero_le _, rfl, rfl⟩⟩

set_option maxRecDepth 100000 in
set_option maxHeartbeats 2000000 in
theorem spec_lines (s : ByteArray) (hs : s.size ≤ 1048576) (w : World) :
    Calls Try.prog 13 #[.string s] w (NewStrs w (linesOf s)) := by
  obtain ⟨i0, hi, hz0, hz1, hz2⟩ := info_parts infoS
  have hN := Lib.hid (partsOf_len qNl s)
  go_enter Try.func13, Try.ntmps13
  go_wp2
  go_loopw [3, 4, 5] (fun vo vf vi wr => ∃ (pre : List ByteArray) (f i : Nat), vf = .int .i64 f ∧ vi = .int .i64 i ∧ Hid (At qNl s pre f i) ∧ wr.ownsRow w.heap.size 9 1 vo pre.length (pre.map Value.string) ∧ Below w.heap.size w wr) (fun _ _ i _ => s.size - (intOf i).toNat)
  case atStart => exact ⟨[], 0, 0, rfl, rfl, At.start _ _, own_empty _ _, (Below.refl _ _).alloc (Nat.le_refl _) _⟩
  case round =>
    rename World => wr
    obtain ⟨pre, f, i, rfl, rfl, HA, hown, hB⟩ := hrel
    have hfp := HA.out.fpos
    have hps := HA.out.le
    have hlen := HA.out.len
    have hlen2 := hN.out
    by_cases hp : i < s.size
    · by_cases hc : s[i].toNat = 10
      · have hc' : ((s[i].toNat : Int) == 10) = true := by rw [hc]; rfl
        have hq : qNl (s[i].toNat : Int) = true := hc'
        have HC := Lib.hid (HA.out.cut1 hp hq)
        have i1 : (f : Int) ≤ (i : Int) := by omega
        clear hc hq
        go_wp2_with (at_builtin; refine wpList_append_own _ rfl _ _ 25 rfl w.heap.size 9 i0 (.string ⟨#[]⟩) 1 16 Try.underlying25 hi hz0 hz1 hz2 rfl (by decide) _ _ _ rfl (hown.alloc _) ⟨wr.heap.size, 0, none⟩ 1 1 [.string (s.extract f i)] rfl rfl (cell_one_new _ _ _) (by simp [Value.oneCell']) (by unfold maxLen; omega) (by omega) (by have := hB.size; simp; omega) ?_; intro v' w1 hown' hgrow _)
        go_roundw
        case rel => first | exact ⟨pre ++ [s.extract f i], i + 1, i + 1, by go_num, by go_num, HC.out, by simpa using hown', (hB.alloc (by have := hB.size; omega) _).grown hgrow (by have := hB.size; simp; omega) (own_lt hown)⟩
        case measure => simp [intOf]; omega
      · have hc' : ((s[i].toNat : Int) == 10) = false := by simp; omega
        have hq : qNl (s[i].toNat : Int) = false := hc'
        have HC := Lib.hid (HA.out.skip1 hp hq)
        clear hc hq
        go_wp2
        go_roundw
        case rel => exact ⟨pre, f, i + 1, rfl, by go_num, HC.out, hown, hB⟩
        case measure => simp [intOf]; omega
    · have hrest := HA.out.rest hp
      have hL := linesOf_eq s pre (s.extract f s.size) hrest.symm
      rw [ext_size, Nat.min_self] at hL
      have HL := Lib.hid hL
      clear hrest hL
      by_cases hf : f < s.size
      · have i1 : (f : Int) ≤ (s.size : Int) := by omega
        go_wp2_with (at_builtin; refine wpList_append_own _ rfl _ _ 25 rfl w.heap.size 9 i0 (.string ⟨#[]⟩) 1 16 Try.underlying25 hi hz0 hz1 hz2 rfl (by decide) _ _ _ rfl (hown.alloc _) ⟨wr.heap.size, 0, none⟩ 1 1 [.string (s.extract f s.size)] rfl rfl (cell_one_new _ _ _) (by simp [Value.oneCell']) (by unfold maxLen; omega) (by omega) (by have := hB.size; simp; omega) ?_; intro v' w1 hown' hgrow _)
        go_ret
        rw [HL.out, if_neg (by omega)]
        exact ⟨_, rfl, by simpa using hown', (hB.alloc (by have := hB.size; omega) _).grown hgrow (by have := hB.size; simp; omega) (own_lt hown)⟩
      · go_wp2
        go_ret
        rw [HL.out, if_pos (by omega)]
        exact ⟨_, rfl, hown, hB⟩
end Go.Proofs.Ytfldaknhdggdiaa
