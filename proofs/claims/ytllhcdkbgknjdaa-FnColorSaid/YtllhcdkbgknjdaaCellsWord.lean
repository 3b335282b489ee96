/-
  The cells of a word: how many there are, whatever the tables hold.
-/
import Derived.Test.YtllhcdkbgknjdaaCellsVar
namespace Go.Proofs.Ytllhcdkbgknjdaa
open Go.RowKit Go

theorem map_setU (zs : List Nat) (i x : Nat) : (zs.map u32v).set i (u32v x) = (zs.set i x).map u32v := List.map_set.symm
theorem small_set {zs : List Nat} (h : ∀ z ∈ zs, z < 4294967296) (i : Nat) {x : Nat} (hx : x < 4294967296) : ∀ z ∈ zs.set i x, z < 4294967296 := by
  intro z hz
  rcases List.mem_or_eq_of_mem_set hz with h1 | h1
  · exact h z h1
  · rw [h1]; exact hx

set_option maxHeartbeats 2000000 in
theorem word_cells (k : Int) (nm : ByteArray) (h0 : 0 ≤ k) (h1 : k ≤ 9) (hs : nm.size ≤ 4611686018427387904) (w : World) (hcs : TabsAny w) :
    Calls Try.prog 62 #[.agg #[.int .i64 k, .string nm]] w (NewLen w (packs nm.data.toList).length) := by
  have HT : Hid (∀ W, Below w.heap.size w W → Calls Try.prog 61 #[.agg #[.int .i64 k]] W fun e w' => (∃ x : Nat, e = .returned (.int .u32 x) ∧ x < 4294967296) ∧ Below W.heap.size W w') := Lib.hid fun W hb => tag_any k h0 h1 W (hcs.below hb)
  have HP : Hid (∀ W, Below w.heap.size w W → Calls Try.prog 64 #[.string nm] W (NewLen W (packs nm.data.toList).length)) := Lib.hid fun W hb => impl_packany nm hs W (hcs.below hb)
  have hm24 := (packs_len nm.data.toList).2
  obtain ⟨m, hm⟩ : ∃ m, (packs nm.data.toList).length = m := ⟨_, rfl⟩
  rw [hm] at HP hm24 ⊢
  clear hcs h0 h1 hm hs
  go_enter Try.func62, Try.ntmps62
  go_wp2_with fail
  refine (HT.out _ ((Below.refl _ _).alloc (Nat.le_refl _) _)).mono ?_
  rintro e w1 ⟨⟨x, rfl, hx⟩, hb1⟩
  have k1 := (Blk.new w 62 #[.int .i64 k, .string nm]).below hb1 (by simp)
  have c1 : w1.cell? ⟨w.heap.size, 1, none⟩ = some (.string nm) := k1.cell 1
  have HB1 := Lib.hid (((Below.refl w.heap.size w).alloc (Nat.le_refl _) _).trans (hb1.mono (by simp)))
  clear hb1 k1 HT
  go_wp2_with fail
  refine (HP.out _ HB1.out).mono ?_
  rintro e w2 ⟨v, zs, rfl, hl, hz, hown, hb2⟩
  have HB2 := Lib.hid (HB1.out.trans (hb2.mono HB1.out.size))
  have HO := Lib.hid (own_base hown HB1.out.size)
  have HZ := Lib.hid hz
  subst hl
  rcases hown.2 with ⟨rfl, h0⟩ | ⟨g, cap, cur, rfl, -⟩
  · obtain rfl : zs = [] := List.eq_nil_of_length_eq_zero h0
    clear hb2 hown hz HP c1 h0
    go_wp2_with fail
    go_loopw [3, 15] (fun vt vi wr => ∃ x : Nat, vt = .int .u32 x ∧ vi = .int .i64 0 ∧ wr = w2) (fun _ _ _ => 0)
    case atStart => exact ⟨x, rfl, rfl, rfl⟩
    case round =>
      obtain ⟨y, rfl, rfl, rfl⟩ := hrel
      go_wp2_with fail
      go_ret
      exact ⟨_, [], rfl, rfl, fun z hz => absurd hz List.not_mem_nil, World.ownsRow_nil _ _ _ _, HB2.out⟩
  · clear hb2 hown hz HP c1
    go_wp2_with fail
    go_loopw [3, 15] (fun vt vi wr => ∃ (x i : Nat) (ys : List Nat), vt = .int .u32 x ∧ vi = .int .i64 i ∧ i ≤ zs.length ∧ Hid (x < 4294967296) ∧ Hid (ys.length = zs.length ∧ ∀ z ∈ ys, z < 4294967296) ∧ wr.ownsRow w.heap.size 24 1 (.slice (some ⟨g, 0, none⟩) zs.length cap) zs.length (ys.map u32v) ∧ Below w.heap.size w wr) (fun _ vi _ => zs.length - (intOf vi).toNat)
    case atStart => exact ⟨x, 0, zs, rfl, rfl, by omega, Lib.hid hx, Lib.hid ⟨rfl, HZ.out⟩, HO.out, HB2.out⟩
    case round =>
      obtain ⟨x, i, ys, rfl, rfl, hi, HX, HY, hO, hB⟩ := hrel
      by_cases hp : i < zs.length
      · have hpy : i < ys.length := by rw [HY.out.1]; exact hp
        have hzi := HY.out.2 _ (List.getElem_mem hpy)
        have hd : wr.cell? ⟨g, i, none⟩ = some (u32v ys[i]) := by
          rw [hO.cellAt i (by omega)]
          simp [hpy]
        obtain ⟨z, hzz⟩ : ∃ z, ys[i] = z := ⟨_, rfl⟩
        rw [hzz] at hd hzi
        change wr.cell? ⟨g, i, none⟩ = some (.int .u32 (z : Int)) at hd
        obtain ⟨y, hy, hyl⟩ := or_nat ((z : Int) * 16 % 4294967296) (x : Int)
        have HYL := Lib.hid hyl
        have hs := hO.stored i (.int .u32 (y : Int))
        have HS := Lib.hid hs
        clear hyl hs
        have hf := hO.frozenAt i
        have i2 : (i : Int) < (zs.length : Int) := by omega
        have HGB := Lib.hid (own_lt hO g rfl)
        have HB := Lib.hid hB
        clear hO hB hzz hpy HO HB2 HB1 HZ
        go_wp2_with fail
        go_roundw
        case rel => exact ⟨0, i + 1, ys.set i y, rfl, by go_num, by omega, Lib.hid (by omega), Lib.hid ⟨by rw [List.length_set]; exact HY.out.1, small_set HY.out.2 i HYL.out⟩, by rw [← map_setU]; exact HS.out.1, HB.out.grown HS.out.2 HB.out.size (fun k hk => by obtain rfl := Option.some.inj hk; exact HGB.out)⟩
        case measure => simp [intOf]; omega
      · obtain rfl : i = zs.length := by omega
        go_wp2_with fail
        go_ret
        exact ⟨_, ys, rfl, HY.out.1, HY.out.2, by rw [HY.out.1]; exact hO, hB⟩
end Go.Proofs.Ytllhcdkbgknjdaa
