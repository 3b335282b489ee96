/-
  The model's cells of a word and of a number: how many there are.
-/
import Derived.Test.YtllhcdkbgknjdaaCellsWord
import Derived.Test.YtllhcdkbgknjdaaCellsNum
namespace Go.Proofs.Ytllhcdkbgknjdaa
open Go.RowKit Go

theorem spec_pack_len (s : ByteArray) (hs : s.size ≤ 4611686018427387904) (w : World) : Calls Try.prog 39 #[.string s] w (NewLen w (packs s.data.toList).length) :=
  (spec_pack s hs w).mono fun _ _ h => NewLen.of_new (fun z hz => Nat.lt_trans (packs_small _ z hz) (by decide)) h

set_option maxHeartbeats 2000000 in
theorem spec_word (t : Nat) (nm : ByteArray) (hs : nm.size ≤ 4611686018427387904) (w : World) :
    Calls Try.prog 36 #[.int .u32 t, .string nm] w (NewLen w (packs nm.data.toList).length) := by
  have HP := Lib.hid (spec_pack_len nm hs w)
  have hm24 := (packs_len nm.data.toList).2
  obtain ⟨m, hm⟩ : ∃ m, (packs nm.data.toList).length = m := ⟨_, rfl⟩
  rw [hm] at HP hm24 ⊢
  clear hm hs
  go_enter Try.func36, Try.ntmps36
  go_wp2_with fail
  refine HP.out.mono ?_
  rintro e w2 ⟨v, zs, rfl, hl, hz, hown, hb2⟩
  have HB2 := Lib.hid hb2
  have HO := Lib.hid hown
  have HZ := Lib.hid hz
  subst hl
  rcases hown.2 with ⟨rfl, h0⟩ | ⟨g, cap, cur, rfl, -⟩
  · obtain rfl : zs = [] := List.eq_nil_of_length_eq_zero h0
    clear hb2 hown hz HP h0
    go_wp2_with fail
    go_loopw [6] (fun vi wr => vi = .int .i64 0 ∧ wr = w2) (fun _ _ => 0)
    case atStart => exact ⟨rfl, rfl⟩
    case round =>
      obtain ⟨rfl, rfl⟩ := hrel
      go_wp2_with fail
      go_ret
      exact ⟨_, [], rfl, rfl, fun _ hz => absurd hz List.not_mem_nil, World.ownsRow_nil _ _ _ _, HB2.out⟩
  · clear hb2 hown hz HP
    go_wp2_with fail
    go_loopw [6] (fun vi wr => ∃ (i : Nat) (ys : List Nat), vi = .int .i64 i ∧ i ≤ zs.length ∧ Hid (ys.length = zs.length ∧ ∀ z ∈ ys, z < 4294967296) ∧ wr.ownsRow w.heap.size 24 1 (.slice (some ⟨g, 0, none⟩) zs.length cap) zs.length (ys.map u32v) ∧ Below w.heap.size w wr) (fun vi _ => zs.length - (intOf vi).toNat)
    case atStart => exact ⟨0, zs, rfl, by omega, Lib.hid ⟨rfl, HZ.out⟩, HO.out, HB2.out⟩
    case round =>
      obtain ⟨i, ys, rfl, hi, HY, hO, hB⟩ := hrel
      by_cases hp : i < zs.length
      · have hpy : i < ys.length := by rw [HY.out.1]; exact hp
        have hzi := HY.out.2 _ (List.getElem_mem hpy)
        have hd : wr.cell? ⟨g, i, none⟩ = some (u32v ys[i]) := by
          rw [hO.cellAt i (by omega)]
          simp [hpy]
        obtain ⟨z, hzz⟩ : ∃ z, ys[i] = z := ⟨_, rfl⟩
        rw [hzz] at hd hzi
        change wr.cell? ⟨g, i, none⟩ = some (.int .u32 (z : Int)) at hd
        obtain ⟨y, hy, hyl⟩ := u32_mod ((z : Int) * 16)
        have HYL := Lib.hid hyl
        have hs := hO.stored i (.int .u32 (y : Int))
        have hf := hO.frozenAt i
        have i2 : (i : Int) < (zs.length : Int) := by omega
        have HGB := Lib.hid (own_lt hO g rfl)
        have hO1 := hs.1
        rw [show Value.int .u32 (y : Int) = u32v y from rfl, map_setU] at hO1
        have HB := Lib.hid (hB.grown hs.2 hB.size (fun k hk => by obtain rfl := Option.some.inj hk; exact HGB.out))
        have HO1 := Lib.hid hO1
        by_cases h0 : i = 0
        · subst h0
          have hd2 : (wr.setCell ⟨g, 0, none⟩ (.int .u32 (y : Int))).cell? ⟨g, 0, none⟩ = some (.int .u32 (y : Int)) := World.cell?_setCell_same _ _ _ hd
          have hf2 := hO1.frozenAt 0
          obtain ⟨y2, hy2, hyl2⟩ := u32_mod ((y : Int) + (t : Int))
          have hs2 := hO1.stored 0 (.int .u32 (y2 : Int))
          have hO2 := hs2.1
          rw [show Value.int .u32 (y2 : Int) = u32v y2 from rfl, map_setU] at hO2
          have HO2 := Lib.hid hO2
          have HB3 := Lib.hid (HB.out.grown hs2.2 HB.out.size (fun k hk => by obtain rfl := Option.some.inj hk; exact HGB.out))
          have HY2 := Lib.hid hyl2
          clear hO hB hzz hpy HO HB2 HZ hs hs2 hO1 hO2 hyl hyl2
          go_wp2_with fail
          go_roundw
          case rel => exact ⟨1, (ys.set 0 y).set 0 y2, rfl, by omega, Lib.hid ⟨by rw [List.length_set, List.length_set]; exact HY.out.1, small_set (small_set HY.out.2 0 HYL.out) 0 HY2.out⟩, HO2.out, HB3.out⟩
          case measure => simp [intOf]; omega
        · have hne : ((i : Int) == 0) = false := by simp; omega
          clear hO hB hzz hpy HO HB2 HZ hs hO1 hyl h0
          go_wp2_with fail
          go_roundw
          case rel => exact ⟨i + 1, ys.set i y, by go_num, by omega, Lib.hid ⟨by rw [List.length_set]; exact HY.out.1, small_set HY.out.2 i HYL.out⟩, HO1.out, HB.out⟩
          case measure => simp [intOf]; omega
      · obtain rfl : i = zs.length := by omega
        go_wp2_with fail
        go_ret
        exact ⟨_, ys, rfl, HY.out.1, HY.out.2, by rw [HY.out.1]; exact hO, hB⟩
end Go.Proofs.Ytllhcdkbgknjdaa
