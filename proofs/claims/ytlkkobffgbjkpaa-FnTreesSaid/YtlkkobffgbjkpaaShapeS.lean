/-
  spec.ShapeOk.
-/
import Derived.Test.YtlkkobffgbjkpaaOpenS
import Derived.Test.YtlkkobffgbjkpaaOpOk
import Derived.Deep.RegionHeld3
import Derived.Handy
namespace Go.Proofs.Ytlkkobffgbjkpaa
open Go.RowKit Go

/-- The numbers of a body lie in 32 bits. -/
def RngO (xs : List (Int × Int)) : Prop := ∀ o ∈ xs, -2147483648 ≤ o.2 ∧ o.2 ≤ 2147483647
set_option maxRecDepth 100000 in
set_option maxHeartbeats 2000000 in
theorem spec_shape_long (xs : List (Int × Int)) (hl : ¬ xs.length ≤ 60) (v : Value) (w : World) (hr : RdS w v xs) : Calls Try.prog 13 #[v] w fun e w' => e = .returned (.bool (shapeB xs)) ∧ Below w.heap.size w w' := by
  have hs : shapeB xs = false := by unfold shapeB; simp [hl]
  rw [hs]
  obtain ⟨A, cap, rfl⟩ := hr.form
  obtain ⟨N, hN⟩ : ∃ N, xs.length = N := ⟨_, rfl⟩
  rw [hN]
  have h60 : 60 < N := by omega
  have h60' : (60 : Int) < (N : Int) := by omega
  clear hr hs hl hN
  go_enter Try.func13, Try.ntmps13
  go_wp2_with fail
  go_ret
  exact ⟨rfl, by go_grown⟩
set_option maxRecDepth 100000 in
set_option maxHeartbeats 4000000 in
theorem spec_shape_short (xs : List (Int × Int)) (hl : xs.length ≤ 60) (hrg : RngO xs) (v : Value) (w : World) (hr : RdS w v xs) : Calls Try.prog 13 #[v] w fun e w' => e = .returned (.bool (shapeB xs)) ∧ Below w.heap.size w w' := by
  obtain ⟨R, hR⟩ : ∃ R, shapeB xs = R := ⟨_, rfl⟩
  rw [hR]
  obtain ⟨A, cap, rfl⟩ := hr.form
  obtain ⟨N, hN⟩ : ∃ N, xs.length = N := ⟨_, rfl⟩
  have HR := Lib.hid (fun W (h : Below w.heap.size w W) => hr.below h)
  have HS := Lib.hid (fun W (h : RdS W (.slice A xs.length cap) xs) => spec_open xs hl (.slice A xs.length cap) W h)
  rw [hN] at HS
  have HRR := Lib.hid hR
  have HN := Lib.hid hN
  have HG := Lib.hid hrg
  rw [hN]
  have h60 : N ≤ 60 := by omega
  have h60' : ¬ (60 : Int) < (N : Int) := by omega
  clear hr hrg hR hl hN
  go_enter Try.func13, Try.ntmps13
  go_wp2_with fail
  go_loopw [3] (fun vi wr => ∃ i : Nat, vi = .int .i64 i ∧ i ≤ N ∧ Hid (Below w.heap.size w wr) ∧ Hid ((xs.take i).all okOp = true)) (fun vi _ => N - (intOf vi).toNat)
  case atStart => exact ⟨0, rfl, by omega, Lib.hid (Below.refl _ _), Lib.hid (by simp)⟩
  case round =>
    obtain ⟨i, rfl, hi, HB, HA⟩ := hrel
    by_cases hp : i < N
    · have hp' : i < xs.length := by rw [HN.out]; exact hp
      have hp2 : i < xs.length := hp'
      obtain ⟨a, rfl, la, p0, p1⟩ := (HR.out wr HB.out).item hp'
      obtain ⟨x, hx⟩ : ∃ x, xs[i] = x := ⟨_, rfl⟩
      have hrx := HG.out x (by rw [← hx]; exact List.getElem_mem hp')
      obtain ⟨k, n⟩ := x
      rw [hx] at p0 p1
      have ht : xs.take (i + 1) = xs.take i ++ [(k, n)] := by rw [List.take_succ_eq_append_getElem hp', hx]
      have HP := Lib.hid (fun W => spec_op k n hrx.1 hrx.2 W)
      have LA : Hid ((a.add (i * 2)).block < wr.heap.size) := Lib.hid (by rw [addr_addb]; exact la)
      have HMEM : Hid ((k, n) ∈ xs) := Lib.hid (by rw [← hx]; exact List.getElem_mem hp')
      have HT := Lib.hid ht
      have i1 : (0 : Int) ≤ (i : Int) := by omega
      have i2 : (i : Int) < (N : Int) := by omega
      clear hx ht hrx la hp' hp2
      by_cases hk : okOp (k, n) = true
      · rw [hk] at HP
        have HA2 : Hid ((xs.take (i + 1)).all okOp = true) := Lib.hid (by rw [HT.out, List.all_append, HA.out, Bool.true_and, List.all_cons, hk]; rfl)
        clear hk HT HMEM HA
        go_wp2_with fail
        refine (HP.out _).mono ?_
        rintro e V ⟨rfl, hbV⟩
        have HW2 := Lib.hid (HB.out.trans (hbV.mono HB.out.size))
        clear hbV HB p0 p1
        go_wp2_with fail
        go_roundw
        case rel => exact ⟨i + 1, by go_num, by omega, HW2, HA2⟩
        case measure => simp [intOf]; omega
      · have hk' : okOp (k, n) = false := by simpa using hk
        rw [hk'] at HP
        have HE : Hid (R = false) := Lib.hid (by
          have ha : xs.all okOp = false := by
            cases hh : xs.all okOp with
            | false => rfl
            | true => rw [List.all_eq_true] at hh; exact absurd (hh _ HMEM.out) hk
          have := HRR.out
          unfold shapeB at this
          rw [ha] at this
          simpa using this.symm)
        clear hk hk' HT HMEM HA
        go_wp2_with fail
        refine (HP.out _).mono ?_
        rintro e V ⟨rfl, hbV⟩
        have HW2 := Lib.hid (HB.out.trans (hbV.mono HB.out.size))
        clear hbV HB p0 p1
        go_wp2_with fail
        go_ret
        exact ⟨by rw [HE.out]; rfl, HW2.out⟩
    · obtain rfl : i = N := by omega
      have HALL : Hid (xs.all okOp = true) := Lib.hid (by have := HA.out; rwa [List.take_of_length_le (by rw [HN.out]; exact Nat.le_refl _)] at this)
      have HC := Lib.hid (HS.out wr (by have := HR.out wr HB.out; rw [HN.out] at this; exact this))
      clear HA HR HS HG
      go_wp2_with fail
      refine HC.out.mono ?_
      rintro e w2 (⟨st, v2, ho, rfl, ⟨A2, c2, rfl⟩, hb2⟩ | ⟨ho, rfl, hb2⟩)
      · have HE : Hid (R = decide (st.length = 0)) := Lib.hid (by
          have h1 := HRR.out
          unfold shapeB at h1
          rw [HALL.out, ho] at h1
          rw [← h1, HN.out]
          simp [h60])
        have HB2 := Lib.hid (HB.out.trans (hb2.mono HB.out.size))
        obtain ⟨m, hm⟩ : ∃ m, st.length = m := ⟨_, rfl⟩
        rw [hm] at HE ⊢
        clear ho hb2 hm HALL HB HC
        by_cases h0 : m = 0
        · subst h0
          go_wp2_with fail
          go_ret
          exact ⟨by rw [HE.out]; rfl, HB2.out⟩
        · have q0 : ((m : Int) == 0) = false := by simp; omega
          have HE2 : Hid (R = false) := Lib.hid (by rw [HE.out]; simpa using h0)
          clear HE h0
          go_wp2_with fail
          go_ret
          exact ⟨by rw [HE2.out]; rfl, HB2.out⟩
      · have HE : Hid (R = false) := Lib.hid (by
          have h1 := HRR.out
          unfold shapeB at h1
          rw [ho] at h1
          simpa using h1.symm)
        have HB2 := Lib.hid (HB.out.trans (hb2.mono HB.out.size))
        clear ho hb2 HALL HB HC
        go_wp2_with fail
        go_ret
        exact ⟨by rw [HE.out]; rfl, HB2.out⟩
theorem spec_shape (xs : List (Int × Int)) (hrg : RngO xs) (v : Value) (w : World) (hr : RdS w v xs) : Calls Try.prog 13 #[v] w fun e w' => e = .returned (.bool (shapeB xs)) ∧ Below w.heap.size w w' := by
  by_cases hl : xs.length ≤ 60
  · exact spec_shape_short xs hl hrg v w hr
  · exact spec_shape_long xs hl v w hr
end Go.Proofs.Ytlkkobffgbjkpaa
