/-
  impl.callsOk.
-/
import Derived.Test.YtlkkobffgbjkpaaDefsMath
import Derived.Test.YtlkkobffgbjkpaaOpenS
import Derived.Test.YtlkkobffgbjkpaaShapeS
import Derived.Handy
import Derived.IntWalk
namespace Go.Proofs.Ytlkkobffgbjkpaa
open Go.RowKit Go

set_option maxRecDepth 100000 in
set_option maxHeartbeats 4000000 in
theorem impl_calls (xs : List (Int × Int)) (hrg : RngO xs) (v : Value) (n : Nat) (w : World) (hr : RdS w v xs) : Calls Try.prog 57 #[v, .int .i64 n] w fun e w' => e = .returned (.bool (xs.all (okC n))) ∧ Below w.heap.size w w' := by
  obtain ⟨R, hR⟩ : ∃ R, xs.all (okC n) = R := ⟨_, rfl⟩
  rw [hR]
  obtain ⟨A, cap, rfl⟩ := hr.form
  obtain ⟨N, hN⟩ : ∃ N, xs.length = N := ⟨_, rfl⟩
  have HR := Lib.hid (fun W (h : Below w.heap.size w W) => hr.below h)
  have HRR := Lib.hid hR
  have HN := Lib.hid hN
  have HG := Lib.hid hrg
  have hN62 : N ≤ 4611686018427387904 := by
    obtain ⟨_, _, _, h, _⟩ := hr
    omega
  rw [hN]
  clear hr hrg hR hN
  go_enter Try.func57, Try.ntmps57
  go_wp2_with fail
  go_loopw [9] (fun vi wr => ∃ i : Nat, vi = .int .i64 i ∧ i ≤ N ∧ Hid (Below w.heap.size w wr) ∧ Hid ((xs.take i).all (okC n) = true)) (fun vi _ => N - (intOf vi).toNat)
  case atStart => exact ⟨0, rfl, by omega, Lib.hid (Below.refl _ _), Lib.hid (by simp)⟩
  case round =>
    obtain ⟨i, rfl, hi, HB, HA⟩ := hrel
    by_cases hp : i < N
    · have hp' : i < xs.length := by rw [HN.out]; exact hp
      obtain ⟨a, rfl, la, p0, p1⟩ := (HR.out wr HB.out).item hp'
      obtain ⟨x, hx⟩ : ∃ x, xs[i] = x := ⟨_, rfl⟩
      have hrx := HG.out x (by rw [← hx]; exact List.getElem_mem hp')
      have HST : Hid (okC n x = true → (xs.take (i + 1)).all (okC n) = true) := Lib.hid (fun h => all_step hp' HA.out (by rw [hx]; exact h))
      have HNO : Hid (okC n x = false → R = false) := Lib.hid (fun h => by rw [← HRR.out]; exact all_not hp' (by rw [hx]; exact h))
      obtain ⟨k, z⟩ := x
      rw [hx] at p0 p1
      simp only at hrx p0 p1
      have i1 : (0 : Int) ≤ (i : Int) := by omega
      have i2 : (i : Int) < (N : Int) := by omega
      have wn : IntKind.i64.wrap z = z := IntWalk.i64_in _ (by omega)
      clear hx hrx la hp' HA
      by_cases hk : k = 2
      · subst hk
        by_cases hz : (n : Int) ≤ z
        · have HE : Hid (R = false) := Lib.hid (HNO.out (by simp [okC, hz]))
          clear HST HNO
          go_wp2_with fail
          go_ret
          exact ⟨by rw [HE.out]; rfl, by have := HB.out; exact this.alloc this.size _⟩
        · have HA2 := Lib.hid (HST.out (by simp [okC]; omega))
          have HB2 := Lib.hid (HB.out.alloc HB.out.size (.cells #[.int .i64 2, .int .i32 z] 75))
          clear HST HNO HB
          go_wp2_with fail
          go_roundw
          case rel => exact ⟨i + 1, by go_num, by omega, HB2, HA2⟩
          case measure => simp [intOf]; omega
      · have q2 : (k == 2) = false := by simpa using hk
        have HA2 := Lib.hid (HST.out (by simp [okC, hk]))
        have HB2 := Lib.hid (HB.out.alloc HB.out.size (.cells #[.int .i64 k, .int .i32 z] 75))
        clear HST HNO HB hk
        go_wp2_with fail
        go_roundw
        case rel => exact ⟨i + 1, by go_num, by omega, HB2, HA2⟩
        case measure => simp [intOf]; omega
    · obtain rfl : i = N := by omega
      have HE : Hid (R = true) := Lib.hid (by have := HA.out; rw [List.take_of_length_le (by rw [HN.out]; exact Nat.le_refl _)] at this; rw [← HRR.out]; exact this)
      clear HA HR HG
      go_wp2_with fail
      go_ret
      exact ⟨by rw [HE.out]; rfl, HB.out⟩
end Go.Proofs.Ytlkkobffgbjkpaa
