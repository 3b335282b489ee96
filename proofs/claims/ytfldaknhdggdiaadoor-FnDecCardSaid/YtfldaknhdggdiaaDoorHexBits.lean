/-
  strconv's formatBits at base 16, no sign, not appended: the number's digits in base 16.
-/
import Derived.Test.YtfldaknhdggdiaaDoorHexMath
import Derived.Test.YtfldaknhdggdiaaDoorSmall
import Derived.Test.YtfldaknhdggdiaaDoorBlk
import Derived.Test.YtfldaknhdggdiaaDoorLaw
import Derived.Laws.BitsAllLaws
import Derived.Laws.BitsLemmas
import Derived.WalkLawsBesides
namespace Go.Proofs.YtfldaknhdggdiaaDoor
open Go.RowKit

theorem pow2_sixteen (w : World) : Calls Tryd.prog 52 #[.int .i64 16] w fun e w' => e = .returned (.bool true) ∧ w = w' := by
  have hb : bits .and .i64 16 15 = 0 := by kernel_rfl
  go_enter Tryd.func52, Tryd.ntmps52
  go_wp2
  go_ret
  exact ⟨rfl, rfl⟩
theorem tz64_sixteen (w : World) (ht : w.cell? ⟨4, 15, none⟩ = some (.int .u8 4)) : Calls Tryd.prog 55 #[.int .u64 16] w fun e w' => e = .returned (.int .i64 4) ∧ w = w' := by
  have hb : bits .and .u64 16 (IntKind.u64.wrap (-16)) = 16 := by kernel_rfl
  go_enter Tryd.func55, Tryd.ntmps55
  go_wp2
  go_ret
  exact ⟨rfl, rfl⟩
theorem tz_sixteen (w : World) (ht : w.cell? ⟨4, 15, none⟩ = some (.int .u8 4)) : Calls Tryd.prog 53 #[.int .u64 16] w fun e w' => e = .returned (.int .i64 4) ∧ w = w' := by
  have HC := Lib.hid (tz64_sixteen w ht)
  clear ht
  go_enter Tryd.func53, Tryd.ntmps53
  go_wp2_with (go_at_call 55; refine HC.out.mono ?_; rintro e w' ⟨rfl, rfl⟩)
  go_ret
  exact ⟨rfl, rfl⟩

/-- The library's text of digits. -/
def d36 : ByteArray := ⟨#[48, 49, 50, 51, 52, 53, 54, 55, 56, 57, 97, 98, 99, 100, 101, 102, 103, 104, 105, 106, 107, 108, 109, 110, 111, 112, 113, 114, 115, 116, 117, 118, 119, 120, 121, 122]⟩
theorem d36_fin : ∀ i : Fin 16, d36.data.toList[i.val]? = some (hdig i.val) := by decide +kernel
theorem d36_size : d36.size = 36 := by decide +kernel
theorem d36_at (i : Nat) (h : i < 16) (hl : i < d36.size) : d36[i] = hdig i := by
  have := d36_fin ⟨i, h⟩
  have hl : i < d36.data.toList.length := hl
  rw [List.getElem?_eq_getElem hl] at this
  injection this with this

def encB (c : UInt8) : Value := .int .u8 (c.toNat : Int)
/-- Where a conversion stands: v is left, t is written from place j on. -/
structure FB (w : World) (n v j : Nat) (A : Array Value) (t : List UInt8) (wr : World) : Prop where
  blk : Blk wr w.heap.size 77 A
  size : A.size = 65
  tail : A.toList.drop j = t.map encB
  len : j + t.length = 65
  digs : hexDigits v ++ t = hexDigits n
  below : Below w.heap.size w wr
theorem drop_set (A : Array Value) (m : Nat) (x : Value) (h : m < A.size) : (A.setIfInBounds m x).toList.drop m = x :: A.toList.drop (m + 1) := by
  rw [Array.toList_setIfInBounds, List.drop_set, if_neg (by omega), Nat.sub_self, List.drop_eq_getElem_cons (by simpa using h)]
  rfl
theorem FB.pos {w wr : World} {n v j : Nat} {A : Array Value} {t : List UInt8} (h : FB w n v j A t wr) (hn : (hexDigits n).length ≤ 8) : 1 ≤ j ∧ j ≤ 65 := by
  have h1 := congrArg List.length h.digs
  have h2 := h.len
  rw [List.length_append] at h1
  have h3 := List.length_pos_iff.2 (hex_ne v)
  omega
theorem FB.store {w wr : World} {n v m : Nat} {A : Array Value} {t : List UInt8} (h : FB w n v (m + 1) A t wr) (d : Nat) :
    Blk (wr.setCell ⟨w.heap.size, m, none⟩ (encB (hdig d))) w.heap.size 77 (A.setIfInBounds m (encB (hdig d))) ∧ (A.setIfInBounds m (encB (hdig d))).size = 65 ∧ (A.setIfInBounds m (encB (hdig d))).toList.drop m = (hdig d :: t).map encB ∧ m + (hdig d :: t).length = 65 ∧ Below w.heap.size w (wr.setCell ⟨w.heap.size, m, none⟩ (encB (hdig d))) := by
  have hl := h.len
  have hz := h.size
  refine ⟨h.blk.put _ _, by simpa using hz, ?_, by simp; omega, h.below.setCell (Nat.le_refl _) _⟩
  rw [drop_set _ _ _ (by omega), h.tail]
  rfl
theorem FB.step {w wr : World} {n v m : Nat} {A : Array Value} {t : List UInt8} (h : FB w n v (m + 1) A t wr) (hv : 16 ≤ v) :
    FB w n (v / 16) m (A.setIfInBounds m (encB (hdig (v % 16)))) (hdig (v % 16) :: t) (wr.setCell ⟨w.heap.size, m, none⟩ (encB (hdig (v % 16)))) := by
  have hd := h.digs
  rw [hex_big (by omega)] at hd
  have hd' : hexDigits (v / 16) ++ hdig (v % 16) :: t = hexDigits n := by simpa using hd
  obtain ⟨a, b, c, d, e⟩ := h.store (v % 16)
  exact ⟨a, b, c, d, hd', e⟩
theorem FB.cell {w wr : World} {n v m : Nat} {A : Array Value} {t : List UInt8} (h : FB w n v (m + 1) A t wr) : ∃ u, wr.cell? ⟨w.heap.size, m, none⟩ = some u ∧ wr.frozen? ⟨w.heap.size, m, none⟩ = false := by
  have hl := h.len
  have hz := h.size
  exact ⟨A[m], by rw [h.blk.cell, Array.getElem?_eq_getElem (by omega)], h.blk.frozen m⟩
theorem and15 (v : Nat) (h : v < 4294967296) : bits .and .u64 (v : Int) 15 = ((v % 16 : Nat) : Int) := by
  rw [show (15 : Int) = ((15 : Nat) : Int) from rfl, u64_and_nat v 15 (by omega) (by omega), show (15 : Nat) = 2 ^ 4 - 1 from rfl, Nat.and_two_pow_sub_one_eq_mod]

set_option maxRecDepth 100000 in
set_option maxHeartbeats 2000000 in
theorem formatbits16 (n : Nat) (h1 : n < 4294967296) (w : World) (ht : w.cell? ⟨4, 15, none⟩ = some (.int .u8 4)) (hg : 4 < w.heap.size) :
    Calls Tryd.prog 46 #[.slice none 0 0, .int .u64 n, .int .i64 16, .bool false, .bool false] w fun e w' => e = .returned (.tuple #[.slice none 0 0, .string ⟨(hexDigits n).toArray⟩]) ∧ Below w.heap.size w w' := by
  have hnl := hex_len8 h1
  have HT : ∀ o, Hid ((w.alloc o).cell? ⟨4, 15, none⟩ = some (.int .u8 4)) := fun o => Lib.hid ((World.cell?_alloc_lt w o ⟨4, 15, none⟩ hg).trans ht)
  clear ht hg
  go_enter Tryd.func46, Tryd.ntmps46
  go_wp2_with (first | (go_at_call 52; refine (pow2_sixteen _).mono ?_; rintro e w' ⟨rfl, rfl⟩) | (go_at_call 53; refine (tz_sixteen _ (HT _).out).mono ?_; rintro e w' ⟨rfl, rfl⟩))
  have HT := True.intro
  go_loopw [1, 13] (fun u i wr => ∃ (v j : Nat) (A : Array Value) (t : List UInt8), u = .int .u64 v ∧ i = .int .i64 j ∧ v ≤ n ∧ FB w n v j A t wr) (fun u _ _ => (intOf u).toNat)
  case atStart => exact ⟨n, 65, _, [], rfl, rfl, Nat.le_refl _, Blk.new _ _ _, by kernel_rfl, by simp, by simp, by simp, (Below.refl _ _).alloc (Nat.le_refl _) _⟩
  case round =>
    obtain ⟨v, j, A, t, rfl, rfl, hv, hF⟩ := hrel
    obtain ⟨m, rfl⟩ : ∃ m, j = m + 1 := ⟨j - 1, by have := hF.pos hnl; omega⟩
    have hm : m ≤ 64 := by have := hF.pos hnl; omega
    obtain ⟨u, hc, hf⟩ := hF.cell
    by_cases h16 : 16 ≤ v
    · have h16' : (16 : Int) ≤ (v : Int) := by omega
      have ha := and15 v (by omega)
      have hs := hF.step h16
      unfold encB at hs
      rw [← d36_at (v % 16) (by omega) (by rw [d36_size]; omega)] at hs
      have HS := Lib.hid hs
      clear hs hF
      go_wp2
      go_roundw
      case rel => exact ⟨v / 16, m, _, _, by go_num, rfl, by omega, HS.out⟩
      case measure => simp [intOf]; omega
    · have h16' : (v : Int) < 16 := by omega
      have hb : v < d36.size := by rw [d36_size]; omega
      obtain ⟨s1, s2, s3, s4, s5⟩ := hF.store v
      have hd := hF.digs
      rw [hex_small (by omega)] at hd
      have hl1 : hdig v :: t = hexDigits n := hd
      rw [hl1] at s3 s4
      have hval : encB (hdig v) = .int .u8 ((d36[v].toNat : Nat) : Int) := by rw [d36_at v (by omega) hb]; rfl
      rw [hval] at s1 s5 s3 s2
      have hsl : ∀ W, (Instr.sliceAt 77 (.pointer (some ⟨w.heap.size, 0, none⟩)) (some (.int .i64 (m : Int))) none none).run Tryd.prog W = .ok (.slice (some ⟨w.heap.size, m, none⟩) (hexDigits n).length (65 - m)) W := fun W => by
        have hal : Tryd.prog.arrayLen 77 = 65 := by kernel_rfl
        rw [run_sliceAt_array_l W 77 ⟨w.heap.size, 0, none⟩ (by kernel_rfl) .i64 (m : Int) (by omega) (by rw [hal]; omega), hal]
        go_simp
        omega
      have hcv := run_convert_bytes_back (P := Tryd.prog) (wr.setCell ⟨w.heap.size, m, none⟩ (.int .u8 ((d36[v].toNat : Nat) : Int))) 22 9 5 ⟨w.heap.size, m, none⟩ (65 - m) (hexDigits n) Tryd.underlying22 Tryd.underlying5 Tryd.underlying9 (fun j hj => by
        have e : (⟨w.heap.size, m, none⟩ : Addr).add j = ⟨w.heap.size, m + j, none⟩ := by unfold Addr.add; split <;> simp_all
        rw [e, s1.cell]
        have h1 := congrArg (·[j]?) s3
        simp only [List.getElem?_drop, List.getElem?_map, List.getElem?_eq_getElem hj, Option.map_some, Array.getElem?_toList] at h1
        exact h1)
      have S5 := Lib.hid s5
      clear s1 s2 s3 s4 s5 hd hl1 hval hF
      go_wp2
      change Oper.upon _ _ _ _ _ (Result.andThen (Sem.run _ _ (wr.setCell _ (.int .u8 ((d36[v].toNat : Nat) : Int)))) _)
      rw [hcv]
      go_wp2
      go_ret2
      exact ⟨rfl, S5.out⟩
end Go.Proofs.YtfldaknhdggdiaaDoor
