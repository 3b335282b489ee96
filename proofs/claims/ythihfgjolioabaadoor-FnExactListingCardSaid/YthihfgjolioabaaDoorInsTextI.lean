/-
  impl.InsText.
-/
import Derived.Test.YthihfgjolioabaaDoorInsMath
import Derived.Test.YthihfgjolioabaaDoorInsSigns
import Derived.Test.YthihfgjolioabaaDoorImplDec
import Derived.Test.YthihfgjolioabaaDoorPrimName
import Derived.Test.YthihfgjolioabaaDoorBlk
import Derived.Handy
import Derived.IntWalk
namespace Go.Proofs.YthihfgjolioabaaDoor
open Go.RowKit Go

theorem dec_size {n : Int} (h0 : -9223372036854775808 ≤ n) (h1 : n ≤ 9223372036854775807) : ByteArray.size ⟨(Lib.itoa n).toArray⟩ ≤ 21 := by
  have h2 := Lib.itoa_length_le n h0 h1
  show (Lib.itoa n).toArray.size ≤ _
  simpa using h2
theorem insTx_word {k n : Int} {s : ByteArray} (h : k = 0 ∨ k = 2 ∨ k = 3 ∨ k = 4 ∨ k = 5 ∨ k = 7) (hs : insL.getD k.toNat ⟨#[]⟩ = s) : insTx (k, n) = s ++ ⟨(Lib.itoa n).toArray⟩ := by
  unfold insTx
  rw [if_neg (by simp only; omega), if_neg (by simp only; omega), if_neg (by simp only; omega), if_neg (by simp only; omega), if_pos (by simp only; omega)]
  simp only [hs]
theorem insTx_out {k n : Int} (h : k < 0 ∨ 10 ≤ k) : insTx (k, n) = ⟨#[]⟩ := by
  unfold insTx
  rw [if_neg (by simp only; omega), if_neg (by simp only; omega), if_neg (by simp only; omega), if_neg (by simp only; omega), if_neg (by simp only; omega)]
theorem kindsT (k : Int) : (k < 0 ∨ 10 ≤ k) ∨ k = 0 ∨ k = 1 ∨ k = 2 ∨ k = 3 ∨ k = 4 ∨ k = 5 ∨ k = 6 ∨ k = 7 ∨ k = 8 ∨ k = 9 := by omega
set_option maxHeartbeats 1000000 in
theorem suffix_yes (s : ByteArray) (hs : s = ⟨#[108, 105, 116, 32]⟩ ∨ s = ⟨#[100, 111, 32]⟩ ∨ s = ⟨#[99, 97, 108, 108, 32]⟩ ∨ s = ⟨#[106, 117, 109, 112, 32]⟩ ∨ s = ⟨#[122, 101, 114, 111, 32]⟩ ∨ s = ⟨#[112, 111, 115, 32]⟩ ∨ s = ⟨#[110, 101, 120, 116, 32]⟩) (w : World) : Calls Tryd.prog 16 #[.string s, .string ⟨#[32]⟩] w fun e w' => e = .returned (.bool true) ∧ w = w' := by
  rcases hs with rfl | rfl | rfl | rfl | rfl | rfl | rfl
  all_goals
    go_enter Tryd.func16, Tryd.ntmps16
    go_wp2
    go_ret
    exact ⟨by kernel_rfl, rfl⟩
set_option maxHeartbeats 1000000 in
theorem suffix_no (s : ByteArray) (hs : s = ⟨#[102, 111, 114]⟩ ∨ s = ⟨#[114, 101, 116]⟩ ∨ s = ⟨#[101, 110, 100]⟩) (w : World) : Calls Tryd.prog 16 #[.string s, .string ⟨#[32]⟩] w fun e w' => e = .returned (.bool false) ∧ w = w' := by
  rcases hs with rfl | rfl | rfl
  all_goals
    go_enter Tryd.func16, Tryd.ntmps16
    go_wp2
    go_ret
    exact ⟨by kernel_rfl, rfl⟩
set_option maxRecDepth 100000 in
set_option maxHeartbeats 8000000 in
theorem impl_instext (k n : Int) (hn0 : -9223372036854775808 ≤ n) (hn1 : n ≤ 9223372036854775807) (w : World) (hp : Lib.TabIs Tryd.prog w "internal/strconv.uint64pow10" .u64 Lib.pow10Tab) (hg : InsW w) : Calls Tryd.prog 7 #[.agg #[.int .i64 k, .int .i64 n]] w fun e w' => e = .returned (.string (insTx (k, n))) ∧ Below w.heap.size w w' := by
  have BX : Hid (Below w.heap.size w (w.alloc (.cells #[.int .i64 k, .int .i64 n] 25))) := Lib.hid (below_alloc1 w _)
  have KX := Lib.hid (fun W (h : Below (w.alloc (.cells #[.int .i64 k, .int .i64 n] 25)).heap.size (w.alloc (.cells #[.int .i64 k, .int .i64 n] 25)) W) => ((Blk.new w 25 #[.int .i64 k, .int .i64 n]).below h (Blk.new w 25 #[.int .i64 k, .int .i64 n]).lt))
  have HPW := Lib.hid (fun W (h : Below w.heap.size w W) => tab_below hp h)
  have HSG := Lib.hid (fun W (h : Below w.heap.size w W) => hg.below h)
  have HD := Lib.hid (fun W (h : Below w.heap.size w W) => impl_dectext n hn0 hn1 W (HPW.out W h))
  have HDS := dec_size hn0 hn1
  clear hp hg
  rcases kindsT k with h | rfl | rfl | rfl | rfl | rfl | rfl | rfl | rfl | rfl | rfl
  · rw [insTx_out h]
    clear HD HDS KX
    rcases h with h | h
    · go_enter Tryd.func7, Tryd.ntmps7
      go_wp2_with fail
      go_ret
      exact ⟨rfl, BX.out⟩
    · have h2 : ¬ k < 0 := by omega
      go_enter Tryd.func7, Tryd.ntmps7
      go_wp2_with fail
      go_ret
      exact ⟨rfl, BX.out⟩
  · rw [insTx_word (s := ⟨#[108, 105, 116, 32]⟩) (by omega) rfl]
    have HD2 := Lib.hid (HD.out _ BX.out)
    obtain ⟨d, hd⟩ : ∃ d : ByteArray, ⟨(Lib.itoa n).toArray⟩ = d := ⟨_, rfl⟩
    rw [hd] at HD2 HDS ⊢
    clear KX hd HD
    have s0 : (w.alloc (.cells #[.int .i64 0, .int .i64 n] 25)).cell? ⟨0, 0, none⟩ = some (.string ⟨#[108, 105, 116, 32]⟩) := (HSG.out _ BX.out).cell 0
    go_enter Tryd.func7, Tryd.ntmps7
    go_wp2_with fail
    refine (suffix_yes ⟨#[108, 105, 116, 32]⟩ (by simp) _).mono ?_
    rintro e w2 ⟨rfl, rfl⟩
    go_wp2_with fail
    refine HD2.out.mono ?_
    rintro e w2 ⟨rfl, hb2⟩
    have HB2 := Lib.hid (BX.out.trans (hb2.mono BX.out.size))
    clear hb2 BX s0
    go_wp2_with fail
    go_ret
    exact ⟨rfl, HB2.out⟩
  · have HP := Lib.hid (fun W => impl_primname n W)
    have HB := Lib.hid (fun W => isbuiltin_any n W)
    have hps := primN_size2 n
    have ht : insTx (1, n) = if inB n 0 23 = true then ⟨#[100, 111, 32]⟩ ++ primN n else ⟨#[]⟩ := by unfold insTx inB; simp
    rw [ht]
    obtain ⟨b, hb⟩ : ∃ b, inB n 0 23 = b := ⟨_, rfl⟩
    rw [hb] at HB ⊢
    obtain ⟨nm, hnm⟩ : ∃ nm, primN n = nm := ⟨_, rfl⟩
    rw [hnm] at HP hps ⊢
    clear HD HDS KX ht hb hnm
    have s0 : (w.alloc (.cells #[.int .i64 1, .int .i64 n] 25)).cell? ⟨0, 1, none⟩ = some (.string ⟨#[100, 111, 32]⟩) := (HSG.out _ BX.out).cell 1
    cases b with
    | true =>
      rw [if_pos rfl]
      go_enter Tryd.func7, Tryd.ntmps7
      go_wp2_with fail
      refine (suffix_yes ⟨#[100, 111, 32]⟩ (by simp) _).mono ?_
      rintro e w2 ⟨rfl, rfl⟩
      go_wp2_with fail
      refine (HB.out _).mono ?_
      rintro e w2 ⟨rfl, rfl⟩
      go_wp2_with fail
      refine (HP.out _).mono ?_
      rintro e w2 ⟨rfl, hb2⟩
      have HB2 := Lib.hid (BX.out.trans (hb2.mono BX.out.size))
      clear hb2 BX s0
      go_wp2_with fail
      go_ret
      exact ⟨rfl, HB2.out⟩
    | false =>
      rw [if_neg (by decide)]
      go_enter Tryd.func7, Tryd.ntmps7
      go_wp2_with fail
      refine (suffix_yes ⟨#[100, 111, 32]⟩ (by simp) _).mono ?_
      rintro e w2 ⟨rfl, rfl⟩
      go_wp2_with fail
      refine (HB.out _).mono ?_
      rintro e w2 ⟨rfl, rfl⟩
      go_wp2_with fail
      go_ret
      exact ⟨rfl, BX.out⟩
  · rw [insTx_word (s := ⟨#[99, 97, 108, 108, 32]⟩) (by omega) rfl]
    have HD2 := Lib.hid (HD.out _ BX.out)
    obtain ⟨d, hd⟩ : ∃ d : ByteArray, ⟨(Lib.itoa n).toArray⟩ = d := ⟨_, rfl⟩
    rw [hd] at HD2 HDS ⊢
    clear KX hd HD
    have s0 : (w.alloc (.cells #[.int .i64 2, .int .i64 n] 25)).cell? ⟨0, 2, none⟩ = some (.string ⟨#[99, 97, 108, 108, 32]⟩) := (HSG.out _ BX.out).cell 2
    go_enter Tryd.func7, Tryd.ntmps7
    go_wp2_with fail
    refine (suffix_yes ⟨#[99, 97, 108, 108, 32]⟩ (by simp) _).mono ?_
    rintro e w2 ⟨rfl, rfl⟩
    go_wp2_with fail
    refine HD2.out.mono ?_
    rintro e w2 ⟨rfl, hb2⟩
    have HB2 := Lib.hid (BX.out.trans (hb2.mono BX.out.size))
    clear hb2 BX s0
    go_wp2_with fail
    go_ret
    exact ⟨rfl, HB2.out⟩
  · rw [insTx_word (s := ⟨#[106, 117, 109, 112, 32]⟩) (by omega) rfl]
    have HD2 := Lib.hid (HD.out _ BX.out)
    obtain ⟨d, hd⟩ : ∃ d : ByteArray, ⟨(Lib.itoa n).toArray⟩ = d := ⟨_, rfl⟩
    rw [hd] at HD2 HDS ⊢
    clear KX hd HD
    have s0 : (w.alloc (.cells #[.int .i64 3, .int .i64 n] 25)).cell? ⟨0, 3, none⟩ = some (.string ⟨#[106, 117, 109, 112, 32]⟩) := (HSG.out _ BX.out).cell 3
    go_enter Tryd.func7, Tryd.ntmps7
    go_wp2_with fail
    refine (suffix_yes ⟨#[106, 117, 109, 112, 32]⟩ (by simp) _).mono ?_
    rintro e w2 ⟨rfl, rfl⟩
    go_wp2_with fail
    refine HD2.out.mono ?_
    rintro e w2 ⟨rfl, hb2⟩
    have HB2 := Lib.hid (BX.out.trans (hb2.mono BX.out.size))
    clear hb2 BX s0
    go_wp2_with fail
    go_ret
    exact ⟨rfl, HB2.out⟩
  · rw [insTx_word (s := ⟨#[122, 101, 114, 111, 32]⟩) (by omega) rfl]
    have HD2 := Lib.hid (HD.out _ BX.out)
    obtain ⟨d, hd⟩ : ∃ d : ByteArray, ⟨(Lib.itoa n).toArray⟩ = d := ⟨_, rfl⟩
    rw [hd] at HD2 HDS ⊢
    clear KX hd HD
    have s0 : (w.alloc (.cells #[.int .i64 4, .int .i64 n] 25)).cell? ⟨0, 4, none⟩ = some (.string ⟨#[122, 101, 114, 111, 32]⟩) := (HSG.out _ BX.out).cell 4
    go_enter Tryd.func7, Tryd.ntmps7
    go_wp2_with fail
    refine (suffix_yes ⟨#[122, 101, 114, 111, 32]⟩ (by simp) _).mono ?_
    rintro e w2 ⟨rfl, rfl⟩
    go_wp2_with fail
    refine HD2.out.mono ?_
    rintro e w2 ⟨rfl, hb2⟩
    have HB2 := Lib.hid (BX.out.trans (hb2.mono BX.out.size))
    clear hb2 BX s0
    go_wp2_with fail
    go_ret
    exact ⟨rfl, HB2.out⟩
  · rw [insTx_word (s := ⟨#[112, 111, 115, 32]⟩) (by omega) rfl]
    have HD2 := Lib.hid (HD.out _ BX.out)
    obtain ⟨d, hd⟩ : ∃ d : ByteArray, ⟨(Lib.itoa n).toArray⟩ = d := ⟨_, rfl⟩
    rw [hd] at HD2 HDS ⊢
    clear KX hd HD
    have s0 : (w.alloc (.cells #[.int .i64 5, .int .i64 n] 25)).cell? ⟨0, 5, none⟩ = some (.string ⟨#[112, 111, 115, 32]⟩) := (HSG.out _ BX.out).cell 5
    go_enter Tryd.func7, Tryd.ntmps7
    go_wp2_with fail
    refine (suffix_yes ⟨#[112, 111, 115, 32]⟩ (by simp) _).mono ?_
    rintro e w2 ⟨rfl, rfl⟩
    go_wp2_with fail
    refine HD2.out.mono ?_
    rintro e w2 ⟨rfl, hb2⟩
    have HB2 := Lib.hid (BX.out.trans (hb2.mono BX.out.size))
    clear hb2 BX s0
    go_wp2_with fail
    go_ret
    exact ⟨rfl, HB2.out⟩
  · rw [show insTx (6, n) = ⟨#[102, 111, 114]⟩ from rfl]
    clear HD HDS KX
    have s0 : (w.alloc (.cells #[.int .i64 6, .int .i64 n] 25)).cell? ⟨0, 6, none⟩ = some (.string ⟨#[102, 111, 114]⟩) := (HSG.out _ BX.out).cell 6
    go_enter Tryd.func7, Tryd.ntmps7
    go_wp2_with fail
    refine (suffix_no ⟨#[102, 111, 114]⟩ (by simp) _).mono ?_
    rintro e w2 ⟨rfl, rfl⟩
    go_wp2_with fail
    go_ret
    exact ⟨rfl, BX.out⟩
  · rw [insTx_word (s := ⟨#[110, 101, 120, 116, 32]⟩) (by omega) rfl]
    have HD2 := Lib.hid (HD.out _ BX.out)
    obtain ⟨d, hd⟩ : ∃ d : ByteArray, ⟨(Lib.itoa n).toArray⟩ = d := ⟨_, rfl⟩
    rw [hd] at HD2 HDS ⊢
    clear KX hd HD
    have s0 : (w.alloc (.cells #[.int .i64 7, .int .i64 n] 25)).cell? ⟨0, 7, none⟩ = some (.string ⟨#[110, 101, 120, 116, 32]⟩) := (HSG.out _ BX.out).cell 7
    go_enter Tryd.func7, Tryd.ntmps7
    go_wp2_with fail
    refine (suffix_yes ⟨#[110, 101, 120, 116, 32]⟩ (by simp) _).mono ?_
    rintro e w2 ⟨rfl, rfl⟩
    go_wp2_with fail
    refine HD2.out.mono ?_
    rintro e w2 ⟨rfl, hb2⟩
    have HB2 := Lib.hid (BX.out.trans (hb2.mono BX.out.size))
    clear hb2 BX s0
    go_wp2_with fail
    go_ret
    exact ⟨rfl, HB2.out⟩
  · rw [show insTx (8, n) = ⟨#[114, 101, 116]⟩ from rfl]
    clear HD HDS KX
    have s0 : (w.alloc (.cells #[.int .i64 8, .int .i64 n] 25)).cell? ⟨0, 8, none⟩ = some (.string ⟨#[114, 101, 116]⟩) := (HSG.out _ BX.out).cell 8
    go_enter Tryd.func7, Tryd.ntmps7
    go_wp2_with fail
    refine (suffix_no ⟨#[114, 101, 116]⟩ (by simp) _).mono ?_
    rintro e w2 ⟨rfl, rfl⟩
    go_wp2_with fail
    go_ret
    exact ⟨rfl, BX.out⟩
  · rw [show insTx (9, n) = ⟨#[101, 110, 100]⟩ from rfl]
    clear HD HDS KX
    have s0 : (w.alloc (.cells #[.int .i64 9, .int .i64 n] 25)).cell? ⟨0, 9, none⟩ = some (.string ⟨#[101, 110, 100]⟩) := (HSG.out _ BX.out).cell 9
    go_enter Tryd.func7, Tryd.ntmps7
    go_wp2_with fail
    refine (suffix_no ⟨#[101, 110, 100]⟩ (by simp) _).mono ?_
    rintro e w2 ⟨rfl, rfl⟩
    go_wp2_with fail
    go_ret
    exact ⟨rfl, BX.out⟩
end Go.Proofs.YthihfgjolioabaaDoor
