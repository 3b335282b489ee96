/-
  The word . on a bench.
  spec.DecText answers the number's decimal numeral, at every int.
  spec.l08Other: the word . .
-/
import Derived.Test.YtdiaiflleiebfaaGreatDoorDO30
import Derived.Laws.IdiomStrings
import Derived.Lib.ItoaLen
import Derived.Test.YtdiaiflleiebfaaGreatDoorDO4
import Derived.Test.YtdiaiflleiebfaaGreatDoorProg
import Derived.WalkKit
import Derived.WalkSpells
import Derived.Lib.Hide
import Derived.Lib.ItoaMem
import Derived.LoopTactic
import Derived.Test.YtdiaiflleiebfaaGreatDoorDO28
import Derived.Test.YtdiaiflleiebfaaGreatDoorDO16
import Derived.RegionTactic
import Derived.ChangeAlike
import Derived.Deep.RegionWith
import Derived.Deep.RegionHeld
import Derived.IntWalk
namespace Go.Proofs.YtdiaiflleiebfaaGreatDoor
open Go.RowKit Go

/-- Bytes that lie anywhere are written, and the word is done. -/
theorem write_src {w w1 : World} {g lo hi n cap t : Nat} {A : Option Addr} {d r m c v o i lv : Value} {S : S8} {l : List Nat} (h : Taken w w1 g lo hi A n cap d r m c v o i S) (hn : S.data.length - t = n) (hol : S.out.length ≤ 400) (hl : l.length ≤ 40) (hv : RdM w1 lv l) :
    Calls Tryz.prog 165 #[.pointer (some ⟨g, 0, none⟩), lv] w1 (BenchEnd w g lo hi d r m c v o i S (say8' S t l)) := by
  have ho := h.own.o
  obtain ⟨O, oc, hO⟩ := own_form ho
  subst hO
  have hT := write_any lo g O S.out.length oc S.out lv l (.slice A n cap) r (.int .i32 S.a) m c v i (.int .i64 S.fault) (.int .i64 S.fuel) w1 rfl hol hl (by have h1 := h.hhi; have h2 := h.hlo; have h3 := h.chg.size; omega) h.box ho hv
  exact hT.mono fun e w' hh => wrote_end h hn hh
/-- The bytes of a text, laid anew. -/
theorem rdm_bytes (w : World) (e : TypeId) (s : ByteArray) (hs : s.size ≤ 4611686018427387904) (fr : Nat × Nat) : RdM (w.drew.alloc (.cells (bytesRow s (grownCap w s.size 0 e)) e fr)) (.slice (some ⟨w.heap.size, 0, none⟩) s.size (grownCap w s.size 0 e)) (s.data.toList.map (·.toNat)) := by
  have hl : (s.data.toList.map (·.toNat)).length = s.size := by rw [List.length_map]; rfl
  refine ⟨_, _, by rw [hl], by omega, fun i hi => ⟨_, rfl, by simp, ?_⟩⟩
  have hi2 : i < s.size := by omega
  rw [addr_lit, Nat.zero_add]
  have h1 := World.cell?_alloc_mark w.drew (bytesRow s (grownCap w s.size 0 e)) e fr i
  have h2 : w.drew.heap.size = w.heap.size := rfl
  rw [h2] at h1
  rw [h1, bytesRow_at s _ i hi2, List.getElem_map]
  rfl
theorem dec_bytes (y : Int) : ((⟨(Lib.itoa y).toArray⟩ : ByteArray) ++ (⟨#[32]⟩ : ByteArray)).data.toList.map (·.toNat) = decN y ++ [32] := by
  simp [decN]
set_option maxRecDepth 100000 in
set_option maxHeartbeats 1000000 in
theorem bw_print (d r m c v o i : Value) (S : S8) (g lo hi : Nat) (w : World) (ht : 1 ≤ S.data.length) (h16 : S.data.length ≤ 16) (ho400 : S.out.length ≤ 400) (hr0 : -2147483648 ≤ top8 S 0) (hr1 : top8 S 0 ≤ 2147483647) (hp : ∀ W, Chg w W (fun k => k = g ∨ (lo ≤ k ∧ k < hi)) → Lib.TabIs Tryz.prog W "internal/strconv.uint64pow10" .u64 Lib.pow10Tab) (hhi : hi ≤ w.heap.size) (hlo : lo ≤ hi) (ho : OwnSt w lo hi d r m c v o i S) (hB : Blk w g 152 #[d, r, .int .i32 S.a, m, c, v, o, i, .int .i64 S.fault, .int .i64 S.fuel]) :
    Calls Tryz.prog 136 #[.pointer (some ⟨g, 0, none⟩)] w (BenchEnd w g lo hi d r m c v o i S (say8 S (decN (top8 S 0) ++ [32]))) := by
  obtain ⟨A, cap, rfl⟩ := own_form ho.d
  obtain ⟨n, hn⟩ : ∃ n, S.data.length = n + 1 := ⟨S.data.length - 1, by omega⟩
  have T0 : Hid (Taken w w g lo hi A (n + 1) cap (.slice A S.data.length cap) r m c v o i S) := Lib.hid (by have h := Taken.start hhi hlo ho hB; exact ⟨rfl, by omega, hhi, hlo, h.chg, h.own, by rw [← hn]; exact hB⟩)
  have HN : Hid (S.data.length = n + 1) := Lib.hid hn
  have H16 := Lib.hid h16
  have h18 : n + 1 ≤ 16 := by omega
  have hol := Lib.hid ho400
  have HP := Lib.hid hp
  clear ho400 hp
  clear ho hB hhi hlo h16 ht hn
  obtain ⟨q0, hA0, hc0, hy0⟩ := T0.out.cell
  subst hA0
  obtain ⟨y, hy⟩ : ∃ y, S.data.getD (n) 0 = y := ⟨_, rfl⟩
  rw [hy] at hy0
  have Hy : Hid (S.data.getD (n) 0 = y) := Lib.hid hy
  have HK0 := Lib.hid (take_any g q0 (n) cap y _ _ _ _ _ _ _ _ _ w (by omega) hc0 T0.out.box hy0)
  clear hy hy0 hc0
  have ey : top8 S 0 = y := by unfold top8; rw [HN.out, ← Hy.out]; rfl
  rw [ey] at hr0 hr1
  have HL : Hid (top8 S 0 = y) := Lib.hid ey
  have hdb := dec_bytes y
  obtain ⟨s1, hs1⟩ : ∃ s1 : ByteArray, (⟨(Lib.itoa y).toArray⟩ : ByteArray) = s1 := ⟨_, rfl⟩
  have hz1 : s1.size ≤ 21 := by
    rw [← hs1]
    have := Lib.itoa_length_le y (by omega) (by omega)
    simpa [ByteArray.size] using this
  rw [hs1] at hdb
  have HDB := Lib.hid hdb
  have HS1 := Lib.hid hs1
  clear ey hdb hs1
  go_enter Tryz.func136, Tryz.ntmps136
  go_wp2_with fail
  refine HK0.out.mono ?_
  rintro e w1 ⟨rfl, hw⟩
  have T1 : Hid (Taken w w1 g lo hi (some ⟨q0, 0, none⟩) (n) cap (.slice (some ⟨q0, 0, none⟩) S.data.length cap) r m c v o i S) := Lib.hid (by rw [hw]; exact T0.out.step)
  clear hw HK0
  have hd := impl_dectext y (by omega) (by omega) w1 (HP.out w1 (T1.out.chg.weaken fun _ _ h => .inl h))
  rw [HS1.out] at hd
  have HD := Lib.hid hd
  clear hd HP
  go_wp2_with fail
  refine HD.out.mono ?_
  rintro e w2 ⟨rfl, hb2⟩
  have T2 := Lib.hid (T1.out.far hb2)
  clear hb2 HD HS1
  have hsz : (s1 ++ (⟨#[32]⟩ : ByteArray)).size ≤ 22 := by rw [ByteArray.size_append]; have : (⟨#[32]⟩ : ByteArray).size = 1 := rfl; omega
  have hconv := run_bytes_of_string (P := Tryz.prog) w2 9 22 5 (s1 ++ (⟨#[32]⟩ : ByteArray)) Tryz.underlying9 Tryz.underlying22 Tryz.underlying5
  have hr := rdm_bytes w2 5 (s1 ++ (⟨#[32]⟩ : ByteArray)) (by omega) ((bytesRow (s1 ++ (⟨#[32]⟩ : ByteArray)) (grownCap w2 (s1 ++ (⟨#[32]⟩ : ByteArray)).size 0 5)).size, (bytesRow (s1 ++ (⟨#[32]⟩ : ByteArray)) (grownCap w2 (s1 ++ (⟨#[32]⟩ : ByteArray)).size 0 5)).size + 1)
  have hb3 : Below w2.heap.size w2 (w2.drew.alloc (.cells (bytesRow (s1 ++ (⟨#[32]⟩ : ByteArray)) (grownCap w2 (s1 ++ (⟨#[32]⟩ : ByteArray)).size 0 5)) 5 ((bytesRow (s1 ++ (⟨#[32]⟩ : ByteArray)) (grownCap w2 (s1 ++ (⟨#[32]⟩ : ByteArray)).size 0 5)).size, (bytesRow (s1 ++ (⟨#[32]⟩ : ByteArray)) (grownCap w2 (s1 ++ (⟨#[32]⟩ : ByteArray)).size 0 5)).size + 1))) := (below_drewN (Below.refl _ _) 1).alloc (Nat.le_refl _) _
  generalize hW3 : w2.drew.alloc (.cells (bytesRow (s1 ++ (⟨#[32]⟩ : ByteArray)) (grownCap w2 (s1 ++ (⟨#[32]⟩ : ByteArray)).size 0 5)) 5 ((bytesRow (s1 ++ (⟨#[32]⟩ : ByteArray)) (grownCap w2 (s1 ++ (⟨#[32]⟩ : ByteArray)).size 0 5)).size, (bytesRow (s1 ++ (⟨#[32]⟩ : ByteArray)) (grownCap w2 (s1 ++ (⟨#[32]⟩ : ByteArray)).size 0 5)).size + 1)) = W3 at hconv hr hb3
  generalize hcp : grownCap w2 (s1 ++ (⟨#[32]⟩ : ByteArray)).size 0 5 = cp3 at hconv hr
  rw [HDB.out] at hr
  have hs2 : (s1 ++ (⟨#[32]⟩ : ByteArray)).size = s1.size + 1 := by rw [ByteArray.size_append]; rfl
  rw [hs2] at hr
  have hll : (decN y ++ [32]).length ≤ 40 := by
    rw [← HDB.out, List.length_map]
    have : (s1 ++ (⟨#[32]⟩ : ByteArray)).data.toList.length = (s1 ++ (⟨#[32]⟩ : ByteArray)).size := rfl
    omega
  have HH := Lib.hid (write_src (t := 1) (T2.out.far hb3) (by rw [HN.out]; rfl) hol.out hll hr)
  clear hW3 hcp hr hb3 hll hsz
  go_wp2_with fail
  refine HH.out.mono ?_
  clear HH
  intro e w9 hE
  rw [say8_one, ← HL.out] at hE
  obtain ⟨u, rfl⟩ := hE.ret
  have HE := Lib.hid hE
  clear hE
  go_wp2_with fail
  go_ret
  exact HE.out
end Go.Proofs.YtdiaiflleiebfaaGreatDoor

namespace Go.Proofs.YtdiaiflleiebfaaGreatDoor
open Go.RowKit

theorem ret_string {a b : List UInt8} (h : a = b) : Ending.returned (.string ⟨a.toArray⟩) = .returned (.string ⟨b.toArray⟩) := by rw [h]

theorem fin_neg {n : Int} (h : n < 0) : Ending.returned (.string ((⟨#[45]⟩ : ByteArray) ++ ⟨(dd n.natAbs).toArray⟩)) = .returned (.string ⟨(Lib.itoa n).toArray⟩) := by
  rw [ByteArray.mk_append_mk, dd_pos (by omega)]
  unfold Lib.itoa
  rw [if_pos h]
  simp
theorem fin_pos {n : Int} (h : 0 < n) : Ending.returned (.string (⟨(dd n.natAbs).toArray⟩ : ByteArray)) = .returned (.string ⟨(Lib.itoa n).toArray⟩) := by
  rw [dd_pos (by omega)]
  unfold Lib.itoa
  rw [if_neg (by omega), show n.toNat = n.natAbs by omega]

theorem dig_string (l : List UInt8) (j : Nat) : Value.string ((⟨#[48, 49, 50, 51, 52, 53, 54, 55, 56, 57]⟩ : ByteArray).extract (j % 10) (j % 10 + 1) ++ ⟨l.toArray⟩) = .string ⟨(UInt8.ofNat (48 + j % 10) :: l).toArray⟩ := by
  rw [show (⟨#[48, 49, 50, 51, 52, 53, 54, 55, 56, 57]⟩ : ByteArray) = tenDigits from rfl, tenDigits_one (Nat.mod_lt _ (by decide)), ByteArray.mk_append_mk]
  simp
theorem dig_step {j : Nat} {l m : List UInt8} (h : dd j ++ l = m) (hj : j ≠ 0) : dd (j / 10) ++ UInt8.ofNat (48 + j % 10) :: l = m := by
  rw [dd_step hj] at h
  simpa using h

theorem dig_neg {j : Nat} {l m : List UInt8} (h : dd (-(j : Int)).natAbs ++ l = m) (hj : j ≠ 0) : dd (-((j / 10 : Nat) : Int)).natAbs ++ UInt8.ofNat (48 + j % 10) :: l = m := by
  rw [Int.natAbs_neg, Int.natAbs_natCast] at *
  exact dig_step h hj

set_option maxHeartbeats 1000000 in
theorem spec_dectext (n : Int) (h0 : -9223372036854775808 ≤ n) (h1 : n ≤ 9223372036854775807) (w : World) :
    Calls Tryz.prog 108 #[.int .i64 n] w fun e w' => e = .returned (.string ⟨(Lib.itoa n).toArray⟩) ∧ w = w' := by
  by_cases hz : n = 0
  · subst hz
    go_enter Tryz.func108, Tryz.ntmps108
    go_wp2
    go_ret
    exact ⟨ret_string (a := [48]) (by decide +kernel), rfl⟩
  · have hz' : (n == 0) = false := by simpa using hz
    have hnl := dd_length (u := n.natAbs) (by omega)
    go_enter Tryz.func108, Tryz.ntmps108
    go_wp2
    go_loop [3, 4] (fun out m => ∃ (k : Int) (l : List UInt8), m = .int .i64 k ∧ out = .string ⟨l.toArray⟩ ∧ dd k.natAbs ++ l = dd n.natAbs ∧ (n < 0 → k ≤ 0) ∧ (0 < n → 0 ≤ k) ∧ k.natAbs ≤ n.natAbs) (fun _ m => (intOf m).natAbs)
    case atStart => exact ⟨n, [], rfl, rfl, by simp, by omega, by omega, by omega⟩
    case round =>
      obtain ⟨k, l, rfl, rfl, hl, hneg, hpos, hle⟩ := hrel
      have hll : l.length ≤ 20 := by
        have := congrArg List.length hl
        simp at this; omega
      by_cases hk : k = 0
      · subst hk
        have HM : l = dd n.natAbs := by simpa [dd_zero] using hl
        subst HM
        clear hl
        by_cases hn : n < 0
        · go_wp2
          go_ret
          exact ⟨fin_neg hn, rfl⟩
        · go_wp2
          go_ret
          exact ⟨fin_pos (by omega), rfl⟩
      · have hk' : (k != 0) = true := by simpa using hk
        have HL := Lib.hid hl
        clear hl
        by_cases hn : n < 0
        · obtain ⟨j, rfl⟩ : ∃ j : Nat, k = -(j : Int) := ⟨k.natAbs, by omega⟩
          have hm : (-(j : Int)).tmod 10 = -((j % 10 : Nat) : Int) := by rw [Int.neg_tmod]; rfl
          go_wp2
          · go_round
            case rel => exact ⟨-((j / 10 : Nat) : Int), _, by go_num, dig_string l j, dig_neg HL.out (by omega), by omega, by omega, by omega⟩
            case measure => simp [intOf]; omega
          · have hd : (-(j : Int) % 10) = 0 := by omega
            go_round
            case rel => exact ⟨-((j / 10 : Nat) : Int), UInt8.ofNat (48 + j % 10) :: l, by go_num, (by rw [show (-((j : Int) % 10)).toNat = j % 10 by omega, show (-((j : Int) % 10) + 1).toNat = j % 10 + 1 by omega]; exact dig_string l j), dig_neg HL.out (by omega), by omega, by omega, by omega⟩
            case measure => simp [intOf]; omega
        · obtain ⟨j, rfl⟩ : ∃ j : Nat, k = (j : Int) := ⟨k.natAbs, by omega⟩
          go_wp2
          go_round
          case rel => exact ⟨((j / 10 : Nat) : Int), _, by go_num, dig_string l j, dig_step HL.out (by omega), by omega, by omega, by omega⟩
          case measure => simp [intOf]; omega
end Go.Proofs.YtdiaiflleiebfaaGreatDoor

namespace Go.Proofs.YtdiaiflleiebfaaGreatDoor
open Go.RowKit Go

theorem st_far {w : World} {q g : Nat} {t : TypeId} {y0 y1 y2 y3 y4 y5 y6 y7 y8 y9 : Value} (h : Blk w q t #[y0, y1, y2, y3, y4, y5, y6, y7, y8, y9]) (hq : q ≠ g) (x0 x1 x2 x3 x4 x5 x6 x7 x8 x9 : Value) :
    ((((((((((w.setCell ⟨g, 0, none⟩ x0).setCell ⟨g, 1, none⟩ x1).setCell ⟨g, 2, none⟩ x2).setCell ⟨g, 3, none⟩ x3).setCell ⟨g, 4, none⟩ x4).setCell ⟨g, 5, none⟩ x5).setCell ⟨g, 6, none⟩ x6).setCell ⟨g, 7, none⟩ x7).setCell ⟨g, 8, none⟩ x8).setCell ⟨g, 9, none⟩ x9).cell? ⟨q, 0, none⟩ = some y0 ∧ ((((((((((w.setCell ⟨g, 0, none⟩ x0).setCell ⟨g, 1, none⟩ x1).setCell ⟨g, 2, none⟩ x2).setCell ⟨g, 3, none⟩ x3).setCell ⟨g, 4, none⟩ x4).setCell ⟨g, 5, none⟩ x5).setCell ⟨g, 6, none⟩ x6).setCell ⟨g, 7, none⟩ x7).setCell ⟨g, 8, none⟩ x8).setCell ⟨g, 9, none⟩ x9).cell? ⟨q, 1, none⟩ = some y1 ∧ ((((((((((w.setCell ⟨g, 0, none⟩ x0).setCell ⟨g, 1, none⟩ x1).setCell ⟨g, 2, none⟩ x2).setCell ⟨g, 3, none⟩ x3).setCell ⟨g, 4, none⟩ x4).setCell ⟨g, 5, none⟩ x5).setCell ⟨g, 6, none⟩ x6).setCell ⟨g, 7, none⟩ x7).setCell ⟨g, 8, none⟩ x8).setCell ⟨g, 9, none⟩ x9).cell? ⟨q, 2, none⟩ = some y2 ∧ ((((((((((w.setCell ⟨g, 0, none⟩ x0).setCell ⟨g, 1, none⟩ x1).setCell ⟨g, 2, none⟩ x2).setCell ⟨g, 3, none⟩ x3).setCell ⟨g, 4, none⟩ x4).setCell ⟨g, 5, none⟩ x5).setCell ⟨g, 6, none⟩ x6).setCell ⟨g, 7, none⟩ x7).setCell ⟨g, 8, none⟩ x8).setCell ⟨g, 9, none⟩ x9).cell? ⟨q, 3, none⟩ = some y3 ∧ ((((((((((w.setCell ⟨g, 0, none⟩ x0).setCell ⟨g, 1, none⟩ x1).setCell ⟨g, 2, none⟩ x2).setCell ⟨g, 3, none⟩ x3).setCell ⟨g, 4, none⟩ x4).setCell ⟨g, 5, none⟩ x5).setCell ⟨g, 6, none⟩ x6).setCell ⟨g, 7, none⟩ x7).setCell ⟨g, 8, none⟩ x8).setCell ⟨g, 9, none⟩ x9).cell? ⟨q, 4, none⟩ = some y4 ∧ ((((((((((w.setCell ⟨g, 0, none⟩ x0).setCell ⟨g, 1, none⟩ x1).setCell ⟨g, 2, none⟩ x2).setCell ⟨g, 3, none⟩ x3).setCell ⟨g, 4, none⟩ x4).setCell ⟨g, 5, none⟩ x5).setCell ⟨g, 6, none⟩ x6).setCell ⟨g, 7, none⟩ x7).setCell ⟨g, 8, none⟩ x8).setCell ⟨g, 9, none⟩ x9).cell? ⟨q, 5, none⟩ = some y5 ∧ ((((((((((w.setCell ⟨g, 0, none⟩ x0).setCell ⟨g, 1, none⟩ x1).setCell ⟨g, 2, none⟩ x2).setCell ⟨g, 3, none⟩ x3).setCell ⟨g, 4, none⟩ x4).setCell ⟨g, 5, none⟩ x5).setCell ⟨g, 6, none⟩ x6).setCell ⟨g, 7, none⟩ x7).setCell ⟨g, 8, none⟩ x8).setCell ⟨g, 9, none⟩ x9).cell? ⟨q, 6, none⟩ = some y6 ∧ ((((((((((w.setCell ⟨g, 0, none⟩ x0).setCell ⟨g, 1, none⟩ x1).setCell ⟨g, 2, none⟩ x2).setCell ⟨g, 3, none⟩ x3).setCell ⟨g, 4, none⟩ x4).setCell ⟨g, 5, none⟩ x5).setCell ⟨g, 6, none⟩ x6).setCell ⟨g, 7, none⟩ x7).setCell ⟨g, 8, none⟩ x8).setCell ⟨g, 9, none⟩ x9).cell? ⟨q, 7, none⟩ = some y7 ∧ ((((((((((w.setCell ⟨g, 0, none⟩ x0).setCell ⟨g, 1, none⟩ x1).setCell ⟨g, 2, none⟩ x2).setCell ⟨g, 3, none⟩ x3).setCell ⟨g, 4, none⟩ x4).setCell ⟨g, 5, none⟩ x5).setCell ⟨g, 6, none⟩ x6).setCell ⟨g, 7, none⟩ x7).setCell ⟨g, 8, none⟩ x8).setCell ⟨g, 9, none⟩ x9).cell? ⟨q, 8, none⟩ = some y8 ∧ ((((((((((w.setCell ⟨g, 0, none⟩ x0).setCell ⟨g, 1, none⟩ x1).setCell ⟨g, 2, none⟩ x2).setCell ⟨g, 3, none⟩ x3).setCell ⟨g, 4, none⟩ x4).setCell ⟨g, 5, none⟩ x5).setCell ⟨g, 6, none⟩ x6).setCell ⟨g, 7, none⟩ x7).setCell ⟨g, 8, none⟩ x8).setCell ⟨g, 9, none⟩ x9).cell? ⟨q, 9, none⟩ = some y9 :=
  st_cells (putSt_far h hq x0 x1 x2 x3 x4 x5 x6 x7 x8 x9)
theorem dec_small {y : Int} (h0 : -2147483648 ≤ y) (h1 : y ≤ 2147483647) : (decN y ++ [32]).length ≤ 40 := by
  have := Lib.itoa_length_le y (by omega) (by omega)
  unfold decN
  simp
  omega
set_option maxRecDepth 100000 in
set_option maxHeartbeats 30000000 in
theorem other_22 (d r m c v o i : Value) (S : S8) (x y : Int) (_hx0 : -2147483648 ≤ x) (_hx1 : x ≤ 2147483647) (hy0 : -2147483648 ≤ y) (hy1 : y ≤ 2147483647) (hs : totSt S ≤ 2500000) (w : World) (hr : RdSt w d r m c v o i S) (hok : Ok8 S) (ht : 1 ≤ S.data.length) :
    Calls Tryz.prog 43 #[.agg #[d, r, .int .i32 S.a, m, c, v, o, i, .int .i64 S.fault, .int .i64 S.fuel], .string ⟨#[46]⟩, .int .i32 x, .int .i32 y] w (NewSt w (fin8 S (prim8 22 S x y))) := by
  have hform := hr.form
  obtain ⟨⟨A0, a0, rfl⟩, ⟨A1, a1, rfl⟩, ⟨A2, a2, rfl⟩, ⟨A3, a3, rfl⟩, ⟨A4, a4, rfl⟩, ⟨A5, a5, rfl⟩, ⟨A6, a6, rfl⟩⟩ := hform
  have e1 : (w.alloc (.cells #[.slice A0 S.data.length a0, .slice A1 S.ret.length a1, .int .i32 S.a, .slice A2 S.mem.length a2, .slice A3 S.cells.length a3, .slice A4 S.vars.length a4, .slice A5 S.out.length a5, .slice A6 S.inp.length a6, .int .i64 S.fault, .int .i64 S.fuel] 29)).heap.size = w.heap.size + 1 := by simp
  have KP := Lib.hid (((Blk.new w 29 #[.slice A0 S.data.length a0, .slice A1 S.ret.length a1, .int .i32 S.a, .slice A2 S.mem.length a2, .slice A3 S.cells.length a3, .slice A4 S.vars.length a4, .slice A5 S.out.length a5, .slice A6 S.inp.length a6, .int .i64 S.fault, .int .i64 S.fuel]).alloc (.cells #[.slice none 0 0, .slice none 0 0, .int .i32 0, .slice none 0 0, .slice none 0 0, .slice none 0 0, .slice none 0 0, .slice none 0 0, .int .i64 0, .int .i64 0] 29)))
  have KR : Hid (Blk ((w.alloc (.cells #[.slice A0 S.data.length a0, .slice A1 S.ret.length a1, .int .i32 S.a, .slice A2 S.mem.length a2, .slice A3 S.cells.length a3, .slice A4 S.vars.length a4, .slice A5 S.out.length a5, .slice A6 S.inp.length a6, .int .i64 S.fault, .int .i64 S.fuel] 29)).alloc (.cells #[.slice none 0 0, .slice none 0 0, .int .i32 0, .slice none 0 0, .slice none 0 0, .slice none 0 0, .slice none 0 0, .slice none 0 0, .int .i64 0, .int .i64 0] 29)) (w.heap.size + 1) 29 #[.slice none 0 0, .slice none 0 0, .int .i32 0, .slice none 0 0, .slice none 0 0, .slice none 0 0, .slice none 0 0, .slice none 0 0, .int .i64 0, .int .i64 0]) := Lib.hid (by have := Blk.new (w.alloc (.cells #[.slice A0 S.data.length a0, .slice A1 S.ret.length a1, .int .i32 S.a, .slice A2 S.mem.length a2, .slice A3 S.cells.length a3, .slice A4 S.vars.length a4, .slice A5 S.out.length a5, .slice A6 S.inp.length a6, .int .i64 S.fault, .int .i64 S.fuel] 29)) 29 #[.slice none 0 0, .slice none 0 0, .int .i32 0, .slice none 0 0, .slice none 0 0, .slice none 0 0, .slice none 0 0, .slice none 0 0, .int .i64 0, .int .i64 0]; rw [e1] at this; exact this)
  have B0 : Hid (Below w.heap.size w ((w.alloc (.cells #[.slice A0 S.data.length a0, .slice A1 S.ret.length a1, .int .i32 S.a, .slice A2 S.mem.length a2, .slice A3 S.cells.length a3, .slice A4 S.vars.length a4, .slice A5 S.out.length a5, .slice A6 S.inp.length a6, .int .i64 S.fault, .int .i64 S.fuel] 29)).alloc (.cells #[.slice none 0 0, .slice none 0 0, .int .i32 0, .slice none 0 0, .slice none 0 0, .slice none 0 0, .slice none 0 0, .slice none 0 0, .int .i64 0, .int .i64 0] 29))) := Lib.hid (below_alloc2 w _ _)
  have Z0 : ((w.alloc (.cells #[.slice A0 S.data.length a0, .slice A1 S.ret.length a1, .int .i32 S.a, .slice A2 S.mem.length a2, .slice A3 S.cells.length a3, .slice A4 S.vars.length a4, .slice A5 S.out.length a5, .slice A6 S.inp.length a6, .int .i64 S.fault, .int .i64 S.fuel] 29)).alloc (.cells #[.slice none 0 0, .slice none 0 0, .int .i32 0, .slice none 0 0, .slice none 0 0, .slice none 0 0, .slice none 0 0, .slice none 0 0, .int .i64 0, .int .i64 0] 29)).heap.size = w.heap.size + 2 := by simp
  have HZ0 := Lib.hid Z0
  clear Z0 e1
  have HCON := Lib.hid (fun lv W (h : Below w.heap.size w W) (hv : RdM W lv (decN y ++ [32])) => spec_say _ _ _ _ _ _ _ S lv (decN y ++ [32]) (dec_small hy0 hy1) hok hs ht W (hr.below h) hv)
  have HT : Hid (totSt (fin8 S (say8 S (decN y ++ [32]))) ≤ 4000000) := Lib.hid (say8_tot hs)
  rw [show prim8 22 S x y = say8 S (decN y ++ [32]) from rfl]
  generalize hT : fin8 S (say8 S (decN y ++ [32])) = T at HT HCON ⊢
  have hdb := dec_bytes y
  have hd := fun W => spec_dectext y (by omega) (by omega) W
  obtain ⟨s1, hs1⟩ : ∃ s1 : ByteArray, (⟨(Lib.itoa y).toArray⟩ : ByteArray) = s1 := ⟨_, rfl⟩
  have hz1 : s1.size ≤ 21 := by
    rw [← hs1]
    have := Lib.itoa_length_le y (by omega) (by omega)
    simpa [ByteArray.size] using this
  rw [hs1] at hdb hd
  have HD := Lib.hid hd
  have hs2 : (s1 ++ (⟨#[32]⟩ : ByteArray)).size = s1.size + 1 := by rw [ByteArray.size_append]; rfl
  have wy1 : IntKind.i64.wrap y = y := IntWalk.i64_in _ (by omega)
  have wy2 : wrap64 y = y := by unfold wrap64; omega
  clear hd hs1 hr hs hok hT ht
  go_enter Tryz.func43, Tryz.ntmps43
  go_wp2_with fail
  have kp := KP.out
  have kr := KR.out
  have hb := B0.out
  have hzz := HZ0.out
  clear KP KR B0 HZ0
  generalize ((w.alloc (.cells #[.slice A0 S.data.length a0, .slice A1 S.ret.length a1, .int .i32 S.a, .slice A2 S.mem.length a2, .slice A3 S.cells.length a3, .slice A4 S.vars.length a4, .slice A5 S.out.length a5, .slice A6 S.inp.length a6, .int .i64 S.fault, .int .i64 S.fuel] 29)).alloc (.cells #[.slice none 0 0, .slice none 0 0, .int .i32 0, .slice none 0 0, .slice none 0 0, .slice none 0 0, .slice none 0 0, .slice none 0 0, .int .i64 0, .int .i64 0] 29)) = w0 at kp kr hb hzz ⊢
  obtain ⟨p0, p1, p2, p3, p4, p5, p6, p7, p8, p9⟩ := st_cells kp
  have lp : w.heap.size < w0.heap.size := by omega
  have HB0 := Lib.hid hb
  have KR0 := Lib.hid kr
  have hconv := run_bytes_of_string (P := Tryz.prog) w0.drew 9 22 5 (s1 ++ (⟨#[32]⟩ : ByteArray)) Tryz.underlying9 Tryz.underlying22 Tryz.underlying5
  have hrr := rdm_bytes w0.drew 5 (s1 ++ (⟨#[32]⟩ : ByteArray)) (by omega) ((bytesRow (s1 ++ (⟨#[32]⟩ : ByteArray)) (grownCap w0.drew (s1 ++ (⟨#[32]⟩ : ByteArray)).size 0 5)).size, (bytesRow (s1 ++ (⟨#[32]⟩ : ByteArray)) (grownCap w0.drew (s1 ++ (⟨#[32]⟩ : ByteArray)).size 0 5)).size + 1)
  have hb3 : Below w0.heap.size w0 (w0.drew.drew.alloc (.cells (bytesRow (s1 ++ (⟨#[32]⟩ : ByteArray)) (grownCap w0.drew (s1 ++ (⟨#[32]⟩ : ByteArray)).size 0 5)) 5 ((bytesRow (s1 ++ (⟨#[32]⟩ : ByteArray)) (grownCap w0.drew (s1 ++ (⟨#[32]⟩ : ByteArray)).size 0 5)).size, (bytesRow (s1 ++ (⟨#[32]⟩ : ByteArray)) (grownCap w0.drew (s1 ++ (⟨#[32]⟩ : ByteArray)).size 0 5)).size + 1))) := (below_drewN (Below.refl _ _) 2).alloc (Nat.le_refl _) _
  rw [hdb] at hrr
  generalize (w0.drew.drew.alloc (.cells (bytesRow (s1 ++ (⟨#[32]⟩ : ByteArray)) (grownCap w0.drew (s1 ++ (⟨#[32]⟩ : ByteArray)).size 0 5)) 5 ((bytesRow (s1 ++ (⟨#[32]⟩ : ByteArray)) (grownCap w0.drew (s1 ++ (⟨#[32]⟩ : ByteArray)).size 0 5)).size, (bytesRow (s1 ++ (⟨#[32]⟩ : ByteArray)) (grownCap w0.drew (s1 ++ (⟨#[32]⟩ : ByteArray)).size 0 5)).size + 1))) = W3 at hconv hrr hb3
  generalize grownCap w0.drew (s1 ++ (⟨#[32]⟩ : ByteArray)).size 0 5 = cp3 at hconv hrr
  rw [hs2] at hrr hconv
  rw [show w0.drew.heap.size = w0.heap.size from rfl] at hrr hconv
  have HRR := Lib.hid hrr
  have hszW : w.heap.size + 2 ≤ W3.heap.size := by have := hb3.size; omega
  have HBW : Hid (Below w.heap.size w W3) := Lib.hid (HB0.out.trans (hb3.mono HB0.out.size))
  have KRW := Lib.hid (KR0.out.below hb3 KR0.out.lt)
  have kp0 := kp
  have hb30 := Lib.hid hb3
  clear kp kr hb hb3 hrr hdb hzz KR0 HB0
  have KP0 := Lib.hid kp0
  have HNE : Hid (w.heap.size ≠ w.heap.size + 1) := Lib.hid (by omega)
  have KPW := Lib.hid (KP0.out.below hb30.out KP0.out.lt)
  go_region_held (fun W => W.cell? ⟨w.heap.size, 0, none⟩ = some (.slice A0 S.data.length a0) ∧ W.cell? ⟨w.heap.size, 1, none⟩ = some (.slice A1 S.ret.length a1) ∧ W.cell? ⟨w.heap.size, 2, none⟩ = some (.int .i32 S.a) ∧ W.cell? ⟨w.heap.size, 3, none⟩ = some (.slice A2 S.mem.length a2) ∧ W.cell? ⟨w.heap.size, 4, none⟩ = some (.slice A3 S.cells.length a3) ∧ W.cell? ⟨w.heap.size, 5, none⟩ = some (.slice A4 S.vars.length a4) ∧ W.cell? ⟨w.heap.size, 6, none⟩ = some (.slice A5 S.out.length a5) ∧ W.cell? ⟨w.heap.size, 7, none⟩ = some (.slice A6 S.inp.length a6) ∧ W.cell? ⟨w.heap.size, 8, none⟩ = some (.int .i64 S.fault) ∧ W.cell? ⟨w.heap.size, 9, none⟩ = some (.int .i64 S.fuel)) (first | with_reducible exact st_cells KP0.out | with_reducible exact st_cells (blk_drew KP0.out) | with_reducible exact st_cells KPW.out | with_reducible exact st_cells KP1.out | with_reducible exact st_far KP1.out HNE.out _ _ _ _ _ _ _ _ _ _) (first | (go_at_call 108; refine (HD.out _).mono ?_; rintro e w' ⟨rfl, rfl⟩) | (go_at_call 107; go_loud (refine (HCON.out _ _ HBW.out HRR.out).mono ?_); rintro e w1 ⟨v0, v1, v2, v3, v4, v5, v6, rfl, ho, hb1⟩; have sz1 : w.heap.size + 2 ≤ w1.heap.size := (by have h1 := hb1.size; omega); have HB1 : Hid (Below w.heap.size w w1) := Lib.hid (HBW.out.trans (hb1.mono HBW.out.size)); have KR1 := Lib.hid (KRW.out.below hb1 KRW.out.lt); have HO1 := Lib.hid (ho.mono (l2 := w.heap.size + 2) (h2 := w1.heap.size) (by omega) (Nat.le_refl _)); obtain ⟨⟨C0, c0, rfl⟩, ⟨C1, c1, rfl⟩, ⟨C2, c2, rfl⟩, ⟨C3, c3, rfl⟩, ⟨C4, c4, rfl⟩, ⟨C5, c5, rfl⟩, ⟨C6, c6, rfl⟩⟩ := ho.form (S := T) HT.out; have KP1 := Lib.hid (KPW.out.below hb1 KPW.out.lt); clear ho hb1; obtain ⟨r0, r1, r2, r3, r4, r5, r6, r7, r8, r9⟩ := st_cells KR1.out; have lr : w.heap.size + 1 < w1.heap.size := KR1.out.lt; have fr := KR1.out.frozen))
  all_goals
    go_wp2_with fail
    have kr := KR1.out
    show bodyPost _ _ _ _ _ (putSt w1 (w.heap.size + 1) (.slice C0 T.data.length c0) (.slice C1 T.ret.length c1) (.int .i32 T.a) (.slice C2 T.mem.length c2) (.slice C3 T.cells.length c3) (.slice C4 T.vars.length c4) (.slice C5 T.out.length c5) (.slice C6 T.inp.length c6) (.int .i64 T.fault) (.int .i64 T.fuel))
    have y1 := putSt_blk kr (.slice C0 T.data.length c0) (.slice C1 T.ret.length c1) (.int .i32 T.a) (.slice C2 T.mem.length c2) (.slice C3 T.cells.length c3) (.slice C4 T.vars.length c4) (.slice C5 T.out.length c5) (.slice C6 T.inp.length c6) (.int .i64 T.fault) (.int .i64 T.fuel)
    have y2 := (HB1.out).grown (putSt_only w1 (w.heap.size + 1) (.slice C0 T.data.length c0) (.slice C1 T.ret.length c1) (.int .i32 T.a) (.slice C2 T.mem.length c2) (.slice C3 T.cells.length c3) (.slice C4 T.vars.length c4) (.slice C5 T.out.length c5) (.slice C6 T.inp.length c6) (.int .i64 T.fault) (.int .i64 T.fuel)) (HB1.out).size (fun k hk => by injection hk with hk; omega)
    have y3 := OwnSt.setSt HO1.out (g := w.heap.size + 1) (.inl (by omega)) (.slice C0 T.data.length c0) (.slice C1 T.ret.length c1) (.int .i32 T.a) (.slice C2 T.mem.length c2) (.slice C3 T.cells.length c3) (.slice C4 T.vars.length c4) (.slice C5 T.out.length c5) (.slice C6 T.inp.length c6) (.int .i64 T.fault) (.int .i64 T.fuel)
    have y4 := putSt_size w1 (w.heap.size + 1) (.slice C0 T.data.length c0) (.slice C1 T.ret.length c1) (.int .i32 T.a) (.slice C2 T.mem.length c2) (.slice C3 T.cells.length c3) (.slice C4 T.vars.length c4) (.slice C5 T.out.length c5) (.slice C6 T.inp.length c6) (.int .i64 T.fault) (.int .i64 T.fuel)
    generalize putSt w1 (w.heap.size + 1) (.slice C0 T.data.length c0) (.slice C1 T.ret.length c1) (.int .i32 T.a) (.slice C2 T.mem.length c2) (.slice C3 T.cells.length c3) (.slice C4 T.vars.length c4) (.slice C5 T.out.length c5) (.slice C6 T.inp.length c6) (.int .i64 T.fault) (.int .i64 T.fuel) = W at y1 y2 y3 y4 ⊢
    obtain ⟨z0, z1, z2, z3, z4, z5, z6, z7, z8, z9⟩ := st_cells y1
    exact bodyPost_ret (v := .agg #[.slice C0 T.data.length c0, .slice C1 T.ret.length c1, .int .i32 T.a, .slice C2 T.mem.length c2, .slice C3 T.cells.length c3, .slice C4 T.vars.length c4, .slice C5 T.out.length c5, .slice C6 T.inp.length c6, .int .i64 T.fault, .int .i64 T.fuel]) (by simp [results, Tryz.results43, z0, z1, z2, z3, z4, z5, z6, z7, z8, z9, go_sem]) rfl (newst_of y3 (by omega) (by first | (rw [y4]; simp; done) | (rw [y4]; simp; omega) | omega) y2)
end Go.Proofs.YtdiaiflleiebfaaGreatDoor
