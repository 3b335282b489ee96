/-
  impl.DefsOk.
-/
import Derived.Test.YtlkkobffgbjkpaaCalls
import Derived.Test.YtlkkobffgbjkpaaDefW
import Derived.Test.YtlkkobffgbjkpaaShapeI
import Derived.Handy
namespace Go.Proofs.Ytlkkobffgbjkpaa
open Go.RowKit Go

set_option maxRecDepth 100000 in
set_option maxHeartbeats 2000000 in
theorem impl_defs_long (ds : List Df) (hl : ¬ ds.length ≤ 24) (hs : SmD ds) (v : Value) (w : World) (hr : RdD w v ds) : Calls Try.prog 24 #[v] w fun e w' => e = .returned (.bool (okDefs ds)) ∧ Below w.heap.size w w' := by
  have he : okDefs ds = false := by unfold okDefs; simp [hl]
  rw [he]
  obtain ⟨A, cap, rfl⟩ := hr.form
  have hs1 := hs.1
  obtain ⟨N, hN⟩ : ∃ N, ds.length = N := ⟨_, rfl⟩
  rw [hN] at hl hs1 ⊢
  have h60 : 24 < N := by omega
  have h60' : (24 : Int) < (N : Int) := by omega
  clear hr he hl hN hs
  go_enter Try.func24, Try.ntmps24
  go_wp2_with fail
  go_ret
  exact ⟨rfl, by go_grown⟩
set_option maxRecDepth 100000 in
set_option maxHeartbeats 8000000 in
theorem impl_defs_short (ds : List Df) (hl : ds.length ≤ 24) (hs : SmD ds) (v : Value) (w : World) (hr : RdD w v ds) : Calls Try.prog 24 #[v] w fun e w' => e = .returned (.bool (okDefs ds)) ∧ Below w.heap.size w w' := by
  obtain ⟨R, hR⟩ : ∃ R, okDefs ds = R := ⟨_, rfl⟩
  rw [hR]
  obtain ⟨A, cap, rfl⟩ := hr.form
  have HR := Lib.hid (fun W (h : Below w.heap.size w W) => hr.below h)
  have HEND := Lib.hid (fun h => (okDefs_all hl h).symm.trans hR)
  have HNO := Lib.hid (fun i (hi : i < ds.length) h => hR.symm.trans (okDefs_not (ds := ds) hi h))
  have HST := Lib.hid (fun i (hi : i < ds.length) => all_step (p := okDf ds.length) hi)
  have HSM := Lib.hid hs.2
  obtain ⟨N, hN⟩ : ∃ N, ds.length = N := ⟨_, rfl⟩
  rw [hN] at HEND
  have HN := Lib.hid hN
  rw [hN] at hl ⊢
  have h24 : ¬ (24 : Int) < (N : Int) := by omega
  clear hr hs hR hN
  go_enter Try.func24, Try.ntmps24
  go_wp2_with fail
  go_loopw [10] (fun vi wr => ∃ i : Nat, vi = .int .i64 i ∧ i ≤ N ∧ Hid (Below w.heap.size w wr) ∧ Hid ((ds.take i).all (okDf ds.length) = true)) (fun vi _ => N - (intOf vi).toNat)
  case atStart => exact ⟨0, rfl, by omega, Lib.hid (Below.refl _ _), Lib.hid (by simp)⟩
  case round =>
    obtain ⟨i, rfl, hi, HB, HA⟩ := hrel
    by_cases hp : i < N
    · have hp' : i < ds.length := by rw [HN.out]; exact hp
      obtain ⟨a, B, m, bc, rfl, la, p0, p1, r0, em⟩ := (HR.out wr HB.out).item hp'
      have HNO2 := Lib.hid (HNO.out i hp')
      have HST2 := Lib.hid (HST.out i hp' HA.out)
      have hsm := HSM.out _ (List.getElem_mem hp')
      rw [HN.out] at HNO2 HST2
      obtain ⟨x, hx⟩ : ∃ x, ds[i] = x := ⟨_, rfl⟩
      rw [hx] at p0 r0 em HNO2 HST2 hsm
      obtain ⟨nm, xs⟩ := x
      simp only at p0 r0 em hsm
      obtain ⟨hsz, hxl, hrg⟩ := hsm
      have LA : Hid ((a.add (i * 2)).block < wr.heap.size) := Lib.hid (by rw [addr_addb]; exact la)
      have HNM := Lib.hid (fun W => impl_nameok nm (by omega) W)
      have HSH := Lib.hid (fun W (h : Below wr.heap.size wr W) => impl_shape xs hrg (.slice B m bc) W (r0.below h))
      have HRX := Lib.hid (fun W (h : Below wr.heap.size wr W) => r0.below h)
      have HRG := Lib.hid (show RngO xs from hrg)
      have hm : m ≤ 1048576 := by omega
      have HXM := Lib.hid em
      have i1 : (0 : Int) ≤ (i : Int) := by omega
      have i2 : (i : Int) < (N : Int) := by omega
      clear hx la hp' hsz hxl hrg r0 em HA
      have BX : Hid (Below wr.heap.size wr (wr.alloc (.cells #[.string nm, .slice B m bc] 93))) := Lib.hid (below_alloc1 wr _)
      have KX := Lib.hid (fun W (h : Below (wr.alloc (.cells #[.string nm, .slice B m bc] 93)).heap.size (wr.alloc (.cells #[.string nm, .slice B m bc] 93)) W) => ((Blk.new wr 93 #[.string nm, .slice B m bc]).below h (Blk.new wr 93 #[.string nm, .slice B m bc]).lt))
      cases hn : nameOk nm with
      | false =>
        rw [hn] at HNM
        have HE : Hid (R = false) := Lib.hid (HNO2.out (by simp [okDf, hn]))
        have HB2 := Lib.hid (HB.out.trans (BX.out.mono HB.out.size))
        clear hn HNO2 HST2 HSH HRX KX BX HB
        go_wp2_with fail
        refine (HNM.out _).mono ?_
        rintro e w2 ⟨rfl, rfl⟩
        go_wp2_with fail
        go_ret
        exact ⟨by rw [HE.out]; rfl, HB2.out⟩
      | true =>
        rw [hn] at HNM
        cases hsh : shapeB xs with
        | false =>
          rw [hsh] at HSH
          have HE : Hid (R = false) := Lib.hid (HNO2.out (by simp [okDf, hsh]))
          clear hn hsh HNO2 HST2 HRX KX
          go_wp2_with fail
          refine (HNM.out _).mono ?_
          rintro e w2 ⟨rfl, rfl⟩
          go_wp2_with fail
          refine (HSH.out _ BX.out).mono ?_
          rintro e w3 ⟨rfl, hb3⟩
          have HB2 := Lib.hid (HB.out.trans ((BX.out.trans (hb3.mono BX.out.size)).mono HB.out.size))
          clear hb3 BX HB
          go_wp2_with fail
          go_ret
          exact ⟨by rw [HE.out]; rfl, HB2.out⟩
        | true =>
          rw [hsh] at HSH
          have HCA := Lib.hid (fun W h => impl_calls xs HRG.out (.slice B m bc) N W (HRX.out W h))
          have HOK : Hid (okDf N (nm, xs) = xs.all (okC N)) := Lib.hid (by simp [okDf, hn, hsh])
          clear hn hsh HRX
          go_wp2_with fail
          refine (HNM.out _).mono ?_
          rintro e w2 ⟨rfl, rfl⟩
          go_wp2_with fail
          refine (HSH.out _ BX.out).mono ?_
          rintro e w3 ⟨rfl, hb3⟩
          have e1 : w3.cell? ⟨wr.heap.size, 1, none⟩ = some (.slice B m bc) := (KX.out _ hb3).cell 1
          have B3 := Lib.hid (BX.out.trans (hb3.mono BX.out.size))
          clear hb3 BX HSH KX
          go_wp2_with fail
          refine (HCA.out _ B3.out).mono ?_
          rintro e w4 ⟨rfl, hb4⟩
          have HB2 := Lib.hid (HB.out.trans ((B3.out.trans (hb4.mono B3.out.size)).mono HB.out.size))
          clear hb4 B3 HB e1
          cases hc : xs.all (okC N) with
          | false =>
            have HE : Hid (R = false) := Lib.hid (HNO2.out (by rw [HOK.out, hc]))
            clear hc HNO2 HST2 HOK
            go_wp2_with fail
            go_ret
            exact ⟨by rw [HE.out]; rfl, HB2.out⟩
          | true =>
            have HA2 : Hid ((ds.take (i + 1)).all (okDf ds.length) = true) := Lib.hid (by have := HST2.out (by rw [HOK.out, hc]); rw [HN.out]; exact this)
            clear hc HNO2 HST2 HOK
            go_wp2_with fail
            go_roundw
            case rel => exact ⟨i + 1, by go_num, by omega, HB2, HA2⟩
            case measure => simp [intOf]; omega
    · obtain rfl : i = N := by omega
      have HE : Hid (R = true) := Lib.hid (by have := HEND.out (by rw [← HN.out]; have := HA.out; rw [← HN.out] at this; exact this); exact this.symm)
      clear HA HR HEND HNO HST
      go_wp2_with fail
      go_ret
      exact ⟨by rw [HE.out]; rfl, HB.out⟩
theorem impl_defs (ds : List Df) (hs : SmD ds) (v : Value) (w : World) (hr : RdD w v ds) : Calls Try.prog 24 #[v] w fun e w' => e = .returned (.bool (okDefs ds)) ∧ Below w.heap.size w w' := by
  by_cases hl : ds.length ≤ 24
  · exact impl_defs_short ds hl hs v w hr
  · exact impl_defs_long ds hl hs v w hr
end Go.Proofs.Ytlkkobffgbjkpaa
