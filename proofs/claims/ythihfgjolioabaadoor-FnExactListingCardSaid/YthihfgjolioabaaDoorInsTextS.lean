/-
  spec.InsText.
-/
import Derived.Test.YthihfgjolioabaaDoorInsMath
import Derived.Test.YthihfgjolioabaaDoorInsTextI
import Derived.Test.YthihfgjolioabaaDoorDecWalk
import Derived.Test.YthihfgjolioabaaDoorIn
import Derived.Test.YthihfgjolioabaaDoorBlk
import Derived.Handy
import Derived.IntWalk
import Derived.RegionTactic
import Derived.Deep.RegionWith
import Derived.Test.YthihfgjolioabaaDoorInsTextSa
import Derived.Test.YthihfgjolioabaaDoorInsTextSb
import Derived.Test.YthihfgjolioabaaDoorOpOk
namespace Go.Proofs.YthihfgjolioabaaDoor
open Go.RowKit Go

set_option maxRecDepth 100000 in
set_option maxHeartbeats 8000000 in
theorem spec_instext (k n : Int) (hn0 : -9223372036854775808 ≤ n) (hn1 : n ≤ 9223372036854775807) (w : World) : Calls Tryd.prog 5 #[.agg #[.int .i64 k, .int .i64 n]] w fun e w' => e = .returned (.string (insTx (k, n))) ∧ Below w.heap.size w w' := by
  have BX : Hid (Below w.heap.size w (w.alloc (.cells #[.int .i64 k, .int .i64 n] 25))) := Lib.hid (below_alloc1 w _)
  have KX := Lib.hid (fun W (h : Below (w.alloc (.cells #[.int .i64 k, .int .i64 n] 25)).heap.size (w.alloc (.cells #[.int .i64 k, .int .i64 n] 25)) W) => ((Blk.new w 25 #[.int .i64 k, .int .i64 n]).below h (Blk.new w 25 #[.int .i64 k, .int .i64 n]).lt))
  have HD := Lib.hid (fun W => spec_dectext n hn0 hn1 W)
  have HDS := dec_size hn0 hn1
  have HI := Lib.hid (fun W => in_any k 0 7 W)
  rcases kindsT k with h | rfl | rfl | rfl | rfl | rfl | rfl | rfl | rfl | rfl | rfl
  · rw [insTx_out h]
    rw [inB_false (show ¬ (0 ≤ k ∧ k ≤ 7) by omega)] at HI
    have q1 : (k == 1) = false := by rw [beq_eq_false_iff_ne]; omega
    have q6 : (k == 6) = false := by rw [beq_eq_false_iff_ne]; omega
    have q8 : (k == 8) = false := by rw [beq_eq_false_iff_ne]; omega
    have q9 : (k == 9) = false := by rw [beq_eq_false_iff_ne]; omega
    clear HD HDS KX h
    go_enter Tryd.func5, Tryd.ntmps5
    go_wp2_with fail
    refine (HI.out _).mono ?_
    rintro e w2 ⟨rfl, rfl⟩
    go_wp2_with fail
    go_ret
    exact ⟨rfl, BX.out⟩
  · exact spec_instext_0 n hn0 hn1 w
  · have HP := Lib.hid (fun W => spec_primname n hn0 hn1 W)
    have hps := primN_size2 n
    have hem := primN_empty n
    have ht : insTx (1, n) = if decide (0 ≤ n ∧ n ≤ 23) = true then ⟨#[100, 111, 32]⟩ ++ primN n else ⟨#[]⟩ := by unfold insTx; simp
    rw [ht]
    generalize primN n = nm at hem HP hps ⊢
    generalize decide (0 ≤ n ∧ n ≤ 23) = b at hem ⊢
    clear HD HDS ht HI
    cases b with
    | true =>
      rw [if_pos rfl]
      go_enter Tryd.func5, Tryd.ntmps5
      go_wp2_with fail
      refine (HP.out _).mono ?_
      rintro e w2 ⟨rfl, hb2⟩
      have e1 : w2.cell? ⟨w.heap.size, 1, none⟩ = some (.int .i64 n) := (KX.out _ hb2).cell 1
      have HB2 := Lib.hid (BX.out.trans (hb2.mono BX.out.size))
      clear hb2 BX KX
      go_wp2_with fail
      refine (HP.out _).mono ?_
      rintro e w3 ⟨rfl, hb3⟩
      have HB3 := Lib.hid (HB2.out.trans (hb3.mono HB2.out.size))
      clear hb3 HB2 e1
      go_wp2_with fail
      go_ret
      exact ⟨rfl, HB3.out⟩
    | false =>
      rw [if_neg (by decide)]
      go_enter Tryd.func5, Tryd.ntmps5
      go_wp2_with fail
      refine (HP.out _).mono ?_
      rintro e w2 ⟨rfl, hb2⟩
      have HB2 := Lib.hid (BX.out.trans (hb2.mono BX.out.size))
      clear hb2 BX KX
      go_wp2_with fail
      go_ret
      exact ⟨rfl, HB2.out⟩
  · exact spec_instext_2 n hn0 hn1 w
  · exact spec_instext_3 n hn0 hn1 w
  · exact spec_instext_4 n hn0 hn1 w
  · exact spec_instext_5 n hn0 hn1 w
  · rw [show insTx (6, n) = ⟨#[102, 111, 114]⟩ from rfl]
    clear HD HDS KX HI
    go_enter Tryd.func5, Tryd.ntmps5
    go_wp2_with fail
    go_ret
    exact ⟨rfl, BX.out⟩
  · exact spec_instext_7 n hn0 hn1 w
  · rw [show insTx (8, n) = ⟨#[114, 101, 116]⟩ from rfl]
    clear HD HDS KX HI
    go_enter Tryd.func5, Tryd.ntmps5
    go_wp2_with fail
    go_ret
    exact ⟨rfl, BX.out⟩
  · rw [show insTx (9, n) = ⟨#[101, 110, 100]⟩ from rfl]
    clear HD HDS KX HI
    go_enter Tryd.func5, Tryd.ntmps5
    go_wp2_with fail
    go_ret
    exact ⟨rfl, BX.out⟩
end Go.Proofs.YthihfgjolioabaaDoor
