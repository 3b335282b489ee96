/-
  spec.BodyText.
-/
import Derived.Test.YtlkkobffgbjkpaaGreatDoorBodyV
import Derived.Test.YtlkkobffgbjkpaaGreatDoorDefsS
import Derived.Test.YtlkkobffgbjkpaaGreatDoorOpTextS
import Derived.Test.YtlkkobffgbjkpaaGreatDoorIn
import Derived.Handy
import Derived.IntWalk
namespace Go.Proofs.YtlkkobffgbjkpaaGreatDoor
open Go.RowKit Go

set_option maxRecDepth 100000 in
set_option maxHeartbeats 8000000 in
theorem spec_body (ds : List Df) (hsm : SmD ds) (k : Int) (v : Value) (w : World) (hr : RdD w v ds) : Calls Tryz.prog 22 #[v, .int .i64 k] w fun e w' => e = .returned (.string (bodyTx ds k)) ∧ Below w.heap.size w w' := by
  have HD := Lib.hid (spec_defs ds hsm v w hr)
  obtain ⟨A, cap, rfl⟩ := hr.form
  have hN := hsm.1
  have HR := Lib.hid (fun W (h : Below w.heap.size w W) => hr.below h)
  have HSM := Lib.hid hsm
  have hD : ∀ b, okDefs ds = b → (b = false → bodyTx ds k = ⟨#[]⟩) := fun b h hb => by unfold bodyTx; rw [if_neg (by rw [h, hb]; simp)]
  cases hok : okDefs ds with
  | false =>
    rw [hok] at HD
    rw [hD _ hok rfl]
    obtain ⟨N, hNe⟩ : ∃ N, ds.length = N := ⟨_, rfl⟩
    rw [hNe] at hN HD ⊢
    clear hr hsm hD HR HSM hNe
    go_enter Tryz.func22, Tryz.ntmps22
    go_wp2_with fail
    refine HD.out.mono ?_
    rintro e w2 ⟨rfl, hb2⟩
    have HB2 := Lib.hid hb2
    clear hb2 HD
    go_wp2_with fail
    go_ret
    exact ⟨rfl, HB2.out⟩
  | true =>
    rw [hok] at HD
    have hlen := okDefs_len hok
    have wz : IntKind.i64.wrap ((ds.length : Int) - 1) = (ds.length : Int) - 1 := IntWalk.i64_in _ (by omega)
    have HIN := Lib.hid (fun W => in_any k 0 ((ds.length : Int) - 1) W)
    by_cases hin : 0 ≤ k ∧ k < (ds.length : Int)
    · have hinb : inB k 0 ((ds.length : Int) - 1) = true := by simp [inB]; omega
      rw [hinb] at HIN
      obtain ⟨q, rfl⟩ : ∃ q : Nat, k = (q : Int) := ⟨k.toNat, by omega⟩
      have hq : q < ds.length := by omega
      have hb : bodyTx ds (q : Int) = ⟨(bodyL ds ds[q]).toArray⟩ := by
        unfold bodyTx
        rw [if_pos ⟨hok, hin⟩]
        simp [List.getD, List.getElem?_eq_getElem hq]
      rw [hb, bodyL_eq]
      have HI := Lib.hid (fun W h => (HR.out W h).item hq)
      have h60 := hlen.2 _ (List.getElem_mem hq)
      obtain ⟨hnm, hxl, hrg⟩ := hsm.2 _ (List.getElem_mem hq)
      obtain ⟨d, hd⟩ : ∃ d, ds[q] = d := ⟨_, rfl⟩
      rw [hd] at HI h60 hnm hxl hrg ⊢
      obtain ⟨nm, xs⟩ := d
      simp only at HI h60 hnm hxl hrg ⊢
      have HT := Lib.hid (fun o (ho : o ∈ xs) u W (h : RdD W u ds) => spec_optext o.1 o.2 ds (hrg o ho).1 (hrg o ho).2 hsm u W h)
      have HSZ := Lib.hid (fun o (ho : o ∈ xs) => opTx_size hsm (hrg o ho).1 (hrg o ho).2)
      obtain ⟨T, hT⟩ : ∃ T, opTxs ds xs = T := ⟨_, rfl⟩
      have HTG := Lib.hid (fun i (h : i < xs.length) => (show T[i]? = some (opTx xs[i] ds).data.toList by rw [← hT]; exact opTxs_get h))
      have HTL := Lib.hid (show T.length = xs.length by rw [← hT]; exact opTxs_len ds xs)
      rw [hT]
      obtain ⟨N, hNe⟩ : ∃ N, ds.length = N := ⟨_, rfl⟩
      have HN := Lib.hid hNe
      have i1 : (0 : Int) ≤ (q : Int) := by omega
      have i2 : (q : Int) < (N : Int) := by omega
      rw [hNe] at hN HD HIN wz HR ⊢
      clear hr hsm hD HSM hNe hok hlen hin hinb hb hd hxl hrg hT hq
      go_enter Tryz.func22, Tryz.ntmps22
      go_wp2_with fail
      refine HD.out.mono ?_
      rintro e w2 ⟨rfl, hb2⟩
      have HB2 := Lib.hid hb2
      clear hb2 HD
      go_wp2_with fail
      refine (HIN.out _).mono ?_
      rintro e w3 ⟨rfl, rfl⟩
      obtain ⟨a, B, m, bc, rfl, la, c0, c1, r0, em⟩ := HI.out _ HB2.out
      have hm : m ≤ 60 := by omega
      have HEM := Lib.hid em
      have LA : Hid ((a.add (q * 2)).block < w2.heap.size) := Lib.hid (by rw [addr_addb]; exact la)
      have C1 := Lib.hid (fun W (h : Below w2.heap.size w2 W) => (h.cell (p := ⟨(a.add (q * 2)).block, (a.add (q * 2)).off + 1, none⟩) LA.out).trans c1)
      have RX := Lib.hid (fun W (h : Below w2.heap.size w2 W) => r0.below h)
      have HRD := Lib.hid (fun W (h : Below w2.heap.size w2 W) => HR.out W (HB2.out.trans (h.mono HB2.out.size)))
      clear la em r0 HIN HI HR
      go_wp2_with fail
      go_loopw [5, 6] (fun vo vi wr => ∃ (i : Nat) (s : ByteArray), vi = .int .i64 i ∧ vo = .string s ∧ i ≤ m ∧ s.size ≤ (i + 1) * 1048577 ∧ Hid (s.data.toList = nm.data.toList ++ Lib.joinTail [32] (T.take i)) ∧ Hid (Below w2.heap.size w2 wr)) (fun _ vi _ => m - (intOf vi).toNat)
      case atStart => exact ⟨0, nm, rfl, rfl, by omega, by omega, Lib.hid (by simp [Lib.joinTail]), Lib.hid (Below.refl _ _)⟩
      case round =>
        obtain ⟨i, s, rfl, rfl, hi, hss, HS, HB⟩ := hrel
        have q1 := C1.out wr HB.out
        by_cases hp : i < m
        · have hp' : i < xs.length := by have := HEM.out; omega
          obtain ⟨b, rfl, lb, o0, o1⟩ := (RX.out wr HB.out).item hp'
          have HC := Lib.hid (HT.out xs[i] (List.getElem_mem hp') _ wr (HRD.out wr HB.out))
          have hts := HSZ.out xs[i] (List.getElem_mem hp')
          have htg := HTG.out i hp'
          obtain ⟨x, hx⟩ : ∃ x, xs[i] = x := ⟨_, rfl⟩
          rw [hx] at o0 o1 HC hts htg
          obtain ⟨kk, z⟩ := x
          obtain ⟨t, ht⟩ : ∃ t, opTx (kk, z) ds = t := ⟨_, rfl⟩
          rw [ht] at HC hts htg
          simp only at o0 o1 HC
          have HST : Hid (((s ++ ⟨#[32]⟩) ++ t).data.toList = nm.data.toList ++ Lib.joinTail [32] (T.take (i + 1))) := Lib.hid (by
            rw [Lib.joinTail_take_succ [32] T i _ htg]
            have := HS.out
            simp [this])
          have hs1 : s.size ≤ 100000000 := by omega
          have hs2 : ((s ++ ⟨#[32]⟩) ++ t).size ≤ (i + 1 + 1) * 1048577 := by
            have e1 : ((s ++ ⟨#[32]⟩) ++ t).size = s.size + 1 + t.size := by simp [ByteArray.size_append]; rfl
            omega
          have HS2 := Lib.hid hs2
          have k1 : (0 : Int) ≤ (i : Int) := by omega
          have k2 : (i : Int) < (m : Int) := by omega
          have e32 : (⟨#[32]⟩ : ByteArray).size = 1 := rfl
          have hs3 : (s ++ ⟨#[32]⟩).size ≤ 100000001 := by
            have e1 : (s ++ ⟨#[32]⟩).size = s.size + 1 := by rw [ByteArray.size_append]; rfl
            omega
          obtain ⟨u, hu⟩ : ∃ u, s ++ ⟨#[32]⟩ = u := ⟨_, rfl⟩
          rw [hu] at hs3 HST HS2 hs2
          have HU := Lib.hid hu
          clear hx ht htg hp' lb hs2 hss HS hu e32
          go_wp2_with fail
          rw [HU.out]
          refine HC.out.mono ?_
          rintro e w4 ⟨rfl, hb4⟩
          have HB4 := Lib.hid (HB.out.trans (hb4.mono HB.out.size))
          clear hb4 HB HC o0 o1 q1
          go_wp2_with fail
          go_roundw
          case rel => exact ⟨i + 1, _, by go_num, rfl, by omega, HS2.out, HST, HB4⟩
          case measure => simp [intOf]; omega
        · obtain rfl : i = m := by omega
          have HE : Hid (s = ⟨(nm.data.toList ++ Lib.joinTail [32] T).toArray⟩) := Lib.hid (by
            have := HS.out
            rw [List.take_of_length_le (by rw [HTL.out]; have := HEM.out; omega)] at this
            rw [← this])
          have HB3 := Lib.hid (HB2.out.trans (HB.out.mono HB2.out.size))
          clear HS HB HB2
          go_wp2_with fail
          go_ret
          exact ⟨by rw [← HE.out]; rfl, HB3.out⟩
    · have hinb : inB k 0 ((ds.length : Int) - 1) = false := inB_false (by omega)
      rw [hinb] at HIN
      have hb : bodyTx ds k = ⟨#[]⟩ := by unfold bodyTx; rw [if_neg (fun h => hin h.2)]
      rw [hb]
      obtain ⟨N, hNe⟩ : ∃ N, ds.length = N := ⟨_, rfl⟩
      rw [hNe] at hN HD HIN wz ⊢
      clear hr hsm hD HSM hNe hok hlen hin hinb hb HR
      go_enter Tryz.func22, Tryz.ntmps22
      go_wp2_with fail
      refine HD.out.mono ?_
      rintro e w2 ⟨rfl, hb2⟩
      have HB2 := Lib.hid hb2
      clear hb2 HD
      go_wp2_with fail
      refine (HIN.out _).mono ?_
      rintro e w3 ⟨rfl, rfl⟩
      go_wp2_with fail
      go_ret
      exact ⟨rfl, HB2.out⟩
end Go.Proofs.YtlkkobffgbjkpaaGreatDoor
