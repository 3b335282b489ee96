/-
  spec.DefsOk.
-/
import Derived.Test.YtlkkobffgbjkpaaDefsMath
import Derived.Test.YtlkkobffgbjkpaaDefW
import Derived.Test.YtlkkobffgbjkpaaShapeS
import Derived.Handy
import Derived.IntWalk
namespace Go.Proofs.Ytlkkobffgbjkpaa
open Go.RowKit Go

set_option maxRecDepth 100000 in
set_option maxHeartbeats 2000000 in
theorem spec_defs_long (ds : List Df) (hl : ¬ ds.length ≤ 24) (hs : SmD ds) (v : Value) (w : World) (hr : RdD w v ds) : Calls Try.prog 22 #[v] w fun e w' => e = .returned (.bool (okDefs ds)) ∧ Below w.heap.size w w' := by
  have he : okDefs ds = false := by unfold okDefs; simp [hl]
  rw [he]
  obtain ⟨A, cap, rfl⟩ := hr.form
  have hs1 := hs.1
  obtain ⟨N, hN⟩ : ∃ N, ds.length = N := ⟨_, rfl⟩
  rw [hN] at hl hs1 ⊢
  have h60 : 24 < N := by omega
  have h60' : (24 : Int) < (N : Int) := by omega
  clear hr he hl hN hs
  go_enter Try.func22, Try.ntmps22
  go_wp2_with fail
  go_ret
  exact ⟨rfl, by go_grown⟩
set_option maxRecDepth 100000 in
set_option maxHeartbeats 8000000 in
theorem spec_defs_short (ds : List Df) (hl : ds.length ≤ 24) (hs : SmD ds) (v : Value) (w : World) (hr : RdD w v ds) : Calls Try.prog 22 #[v] w fun e w' => e = .returned (.bool (okDefs ds)) ∧ Below w.heap.size w w' := by
  obtain ⟨R, hR⟩ : ∃ R, okDefs ds = R := ⟨_, rfl⟩
  rw [hR]
  obtain ⟨A, cap, rfl⟩ := hr.form
  have HR := Lib.hid (fun W (h : Below w.heap.size w W) => hr.below h)
  have HEND := Lib.hid (fun h => (okDefs_all hl h).symm.trans hR)
  have HNO := Lib.hid (fun i (hi : i < ds.length) h => hR.symm.trans (okDefs_not (ds := ds) hi h))
  have HST := Lib.hid (fun i (hi : i < ds.length) => all_step (p := okDf ds.length) hi)
  have HSM := Lib.hid hs.2
  obtain ⟨N, hN⟩ : ∃ N, ds.length = N := ⟨_, rfl⟩
  rw [hN] at HEND
  have HN := Lib.hid hN
  rw [hN] at hl ⊢
  have h24 : ¬ (24 : Int) < (N : Int) := by omega
  clear hr hs hR hN
  go_enter Try.func22, Try.ntmps22
  go_wp2_with fail
  go_loopw [3] (fun vi wr => ∃ i : Nat, vi = .int .i64 i ∧ i ≤ N ∧ Hid (Below w.heap.size w wr) ∧ Hid ((ds.take i).all (okDf ds.length) = true)) (fun vi _ => N - (intOf vi).toNat)
  case atStart => exact ⟨0, rfl, by omega, Lib.hid (Below.refl _ _), Lib.hid (by simp)⟩
  case round =>
    obtain ⟨i, rfl, hi, HB, HA⟩ := hrel
    by_cases hp : i < N
    · have hp' : i < ds.length := by rw [HN.out]; exact hp
      obtain ⟨a, B, m, bc, rfl, la, p0, p1, r0, em⟩ := (HR.out wr HB.out).item hp'
      have HNO2 := Lib.hid (HNO.out i hp')
      have HST2 := Lib.hid (HST.out i hp' HA.out)
      have hsm := HSM.out _ (List.getElem_mem hp')
      rw [HN.out] at HNO2 HST2
      obtain ⟨x, hx⟩ : ∃ x, ds[i] = x := ⟨_, rfl⟩
      rw [hx] at p0 r0 em HNO2 HST2 hsm
      obtain ⟨nm, xs⟩ := x
      simp only at p0 r0 em hsm
      obtain ⟨hsz, hxl, hrg⟩ := hsm
      have LA : Hid ((a.add (i * 2)).block < wr.heap.size) := Lib.hid (by rw [addr_addb]; exact la)
      have HNM := Lib.hid (fun W => spec_nameok nm (by omega) W)
      have HSH := Lib.hid (fun W (h : Below wr.heap.size wr W) => spec_shape xs hrg (.slice B m bc) W (r0.below h))
      have HRX := Lib.hid (fun W (h : Below wr.heap.size wr W) => r0.below h)
      have HRG := Lib.hid (show RngO xs from hrg)
      have hm : m ≤ 1048576 := by omega
      have HXM := Lib.hid em
      have i1 : (0 : Int) ≤ (i : Int) := by omega
      have i2 : (i : Int) < (N : Int) := by omega
      clear hx la hp' hsz hxl hrg r0 em HA
      cases hn : nameOk nm with
      | false =>
        rw [hn] at HNM
        have HE : Hid (R = false) := Lib.hid (HNO2.out (by simp [okDf, hn]))
        clear hn HNO2 HST2 HSH HRX
        go_wp2_with fail
        refine (HNM.out _).mono ?_
        rintro e w2 ⟨rfl, rfl⟩
        go_wp2_with fail
        go_ret
        exact ⟨by rw [HE.out]; rfl, HB.out⟩
      | true =>
        rw [hn] at HNM
        cases hsh : shapeB xs with
        | false =>
          rw [hsh] at HSH
          have HE : Hid (R = false) := Lib.hid (HNO2.out (by simp [okDf, hsh]))
          clear hn hsh HNO2 HST2 HRX
          go_wp2_with fail
          refine (HNM.out _).mono ?_
          rintro e w2 ⟨rfl, rfl⟩
          go_wp2_with fail
          refine (HSH.out _ (Below.refl _ _)).mono ?_
          rintro e w3 ⟨rfl, hb3⟩
          have HB2 := Lib.hid (HB.out.trans (hb3.mono HB.out.size))
          clear hb3 HB
          go_wp2_with fail
          go_ret
          exact ⟨by rw [HE.out]; rfl, HB2.out⟩
        | true =>
          rw [hsh] at HSH
          have HOK : Hid (okDf N (nm, xs) = xs.all (okC N)) := Lib.hid (by simp [okDf, hn, hsh])
          clear hn hsh
          go_wp2_with fail
          refine (HNM.out _).mono ?_
          rintro e w2 ⟨rfl, rfl⟩
          go_wp2_with fail
          refine (HSH.out _ (Below.refl _ _)).mono ?_
          rintro e w3 ⟨rfl, hb3⟩
          have HB3 := Lib.hid (HB.out.trans (hb3.mono HB.out.size))
          have RX3 := Lib.hid (fun W (h : Below w3.heap.size w3 W) => (HRX.out w3 hb3).below h)
          have C1 := Lib.hid (fun W (h : Below w3.heap.size w3 W) => ((hb3.trans (h.mono hb3.size)).cell (p := ⟨(a.add (i * 2)).block, (a.add (i * 2)).off + 1, none⟩) LA.out).trans p1)
          clear hb3 HB HSH HRX HNM p0 p1
          go_wp2_with fail
          go_loopw [4] (fun vk wr2 => ∃ k : Nat, vk = .int .i64 k ∧ k ≤ m ∧ Hid (Below w3.heap.size w3 wr2) ∧ Hid ((xs.take k).all (okC N) = true)) (fun vk _ => m - (intOf vk).toNat)
          case atStart => exact ⟨0, rfl, by omega, Lib.hid (Below.refl _ _), Lib.hid (by simp)⟩
          case round =>
            obtain ⟨k, rfl, hk, HB4, HA4⟩ := hrel
            have q1 := C1.out wr HB4.out
            by_cases hkm : k < m
            · have hk' : k < xs.length := by have := HXM.out; omega
              obtain ⟨b, rfl, lb, o0, o1⟩ := (RX3.out wr HB4.out).item hk'
              have hrx := HRG.out _ (List.getElem_mem hk')
              have HSTC := Lib.hid (fun h => all_step (p := okC N) hk' HA4.out h)
              have HNOC := Lib.hid (fun h => HNO2.out (by rw [HOK.out]; exact all_not (p := okC N) hk' h))
              obtain ⟨x, hx⟩ : ∃ x, xs[k] = x := ⟨_, rfl⟩
              rw [hx] at o0 o1 hrx HSTC HNOC
              obtain ⟨kk, z⟩ := x
              simp only at hrx o0 o1
              have k1 : (0 : Int) ≤ (k : Int) := by omega
              have k2 : (k : Int) < (m : Int) := by omega
              have wn : IntKind.i64.wrap z = z := IntWalk.i64_in _ (by omega)
              clear hx hrx lb hk' HA4
              by_cases hkk : kk = 2
              · subst hkk
                by_cases hz : (N : Int) ≤ z
                · have HE : Hid (R = false) := Lib.hid (HNOC.out (by simp [okC, hz]))
                  have HB5 := Lib.hid (HB3.out.trans ((HB4.out.alloc HB4.out.size (.cells #[.int .i64 2, .int .i32 z] 75)).mono HB3.out.size))
                  clear HSTC HNOC HNO2 HST2 HB3 HB4
                  go_wp2_with fail
                  go_ret
                  exact ⟨by rw [HE.out]; rfl, HB5.out⟩
                · have HA5 := Lib.hid (HSTC.out (by simp [okC]; omega))
                  have HB5 := Lib.hid (HB4.out.alloc HB4.out.size (.cells #[.int .i64 2, .int .i32 z] 75))
                  clear HSTC HNOC HB4
                  go_wp2_with fail
                  go_roundw
                  case rel => exact ⟨k + 1, by go_num, by omega, HB5, HA5⟩
                  case measure => simp [intOf]; omega
              · have q2 : (kk == 2) = false := by simpa using hkk
                have HA5 := Lib.hid (HSTC.out (by simp [okC, hkk]))
                have HB5 := Lib.hid (HB4.out.alloc HB4.out.size (.cells #[.int .i64 kk, .int .i32 z] 75))
                clear HSTC HNOC HB4 hkk
                go_wp2_with fail
                go_roundw
                case rel => exact ⟨k + 1, by go_num, by omega, HB5, HA5⟩
                case measure => simp [intOf]; omega
            · obtain rfl : k = m := by omega
              have HA2 : Hid ((ds.take (i + 1)).all (okDf ds.length) = true) := Lib.hid (by
                have hall : xs.all (okC N) = true := by have := HA4.out; rwa [List.take_of_length_le (by have := HXM.out; omega)] at this
                have := HST2.out (by rw [HOK.out, hall])
                rw [HN.out]
                exact this)
              have HB5 := Lib.hid (HB3.out.trans (HB4.out.mono HB3.out.size))
              clear HA4 HB3 HB4 HNO2 HST2 HOK
              go_wp2_with fail
              go_roundw
              case rel => exact ⟨i + 1, by go_num, by omega, HB5, HA2⟩
              case measure => simp [intOf]; omega
    · obtain rfl : i = N := by omega
      have HE : Hid (R = true) := Lib.hid (by have := HEND.out (by rw [← HN.out]; have := HA.out; rw [← HN.out] at this; exact this); exact this.symm)
      clear HA HR HEND HNO HST
      go_wp2_with fail
      go_ret
      exact ⟨by rw [HE.out]; rfl, HB.out⟩
theorem spec_defs (ds : List Df) (hs : SmD ds) (v : Value) (w : World) (hr : RdD w v ds) : Calls Try.prog 22 #[v] w fun e w' => e = .returned (.bool (okDefs ds)) ∧ Below w.heap.size w w' := by
  by_cases hl : ds.length ≤ 24
  · exact spec_defs_short ds hl hs v w hr
  · exact spec_defs_long ds hl hs v w hr
end Go.Proofs.Ytlkkobffgbjkpaa
