/-
  impl.OpText.
-/
import Derived.Test.YtlkkobffgbjkpaaGreatDoorOpTextV
import Derived.Test.YtlkkobffgbjkpaaGreatDoorOpOk
import Derived.Test.YtlkkobffgbjkpaaGreatDoorDefW
import Derived.Test.YtlkkobffgbjkpaaGreatDoorImplDec
import Derived.Test.YtlkkobffgbjkpaaGreatDoorPrimName
import Derived.Test.YtlkkobffgbjkpaaGreatDoorShelf
import Derived.Handy
import Derived.IntWalk
namespace Go.Proofs.YtlkkobffgbjkpaaGreatDoor
open Go.RowKit Go

theorem clone_any (s : ByteArray) (hs : s.size ≤ 1048576) (w : World) : Calls Tryz.prog 58 #[.string s] w fun e w' => e = .returned (.string s) ∧ Below w.heap.size w w' := by
  have HC := Lib.hid (Tryz.stringslite_Clone s w (by omega))
  clear hs
  go_enter Tryz.func58, Tryz.ntmps58
  go_wp2_with fail
  refine HC.out.mono ?_
  rintro e w2 ⟨rfl, hb2⟩
  have HB2 := Lib.hid hb2
  clear hb2 HC
  go_wp2_with fail
  go_ret
  exact ⟨rfl, HB2.out⟩
set_option maxRecDepth 100000 in
set_option maxHeartbeats 8000000 in
theorem impl_optext (k n : Int) (ds : List Df) (hn0 : -2147483648 ≤ n) (hn1 : n ≤ 2147483647) (hsm : SmD ds) (v : Value) (w : World) (hr : RdD w v ds) (hp : Lib.TabIs Tryz.prog w "internal/strconv.uint64pow10" .u64 Lib.pow10Tab) (hg : Signs w) : Calls Tryz.prog 59 #[.agg #[.int .i64 k, .int .i32 n], v] w fun e w' => e = .returned (.string (opTx (k, n) ds)) ∧ Below w.heap.size w w' := by
  obtain ⟨A, cap, rfl⟩ := hr.form
  have HR := Lib.hid (fun W (h : Below w.heap.size w W) => hr.below h)
  have BX : Hid (Below w.heap.size w (w.alloc (.cells #[.int .i64 k, .int .i32 n] 90))) := Lib.hid (below_alloc1 w _)
  have KX := Lib.hid (fun W (h : Below (w.alloc (.cells #[.int .i64 k, .int .i32 n] 90)).heap.size (w.alloc (.cells #[.int .i64 k, .int .i32 n] 90)) W) => ((Blk.new w 90 #[.int .i64 k, .int .i32 n]).below h (Blk.new w 90 #[.int .i64 k, .int .i32 n]).lt))
  have HO := Lib.hid (fun W => impl_opok k n hn0 hn1 W)
  have HNM := Lib.hid (fun i (hi : i < ds.length) => (hsm.2 _ (List.getElem_mem hi)).1)
  have wn : IntKind.i64.wrap n = n := IntWalk.i64_in _ (by omega)
  have HPW := Lib.hid (fun W (h : Below w.heap.size w W) => tab_below hp h)
  have HSG := Lib.hid (fun W (h : Below w.heap.size w W) => hg.below h)
  clear hp hg
  have hN := hsm.1
  obtain ⟨N, hNe⟩ : ∃ N, ds.length = N := ⟨_, rfl⟩
  have HN := Lib.hid hNe
  rw [hNe] at hN ⊢
  clear hr hsm hNe
  cases hk : okOp (k, n) with
  | false =>
    rw [hk] at HO
    rw [opTx_not hk]
    clear hk HR KX HNM
    go_enter Tryz.func59, Tryz.ntmps59
    go_wp2_with fail
    refine (HO.out _).mono ?_
    rintro e w2 ⟨rfl, hb2⟩
    have HB2 := Lib.hid (BX.out.trans (hb2.mono BX.out.size))
    clear hb2 BX
    go_wp2_with fail
    go_ret
    exact ⟨rfl, HB2.out⟩
  | true =>
    rw [hk] at HO
    rw [opTx_ok hk]
    by_cases h0 : k = 0
    · subst h0
      rw [if_pos rfl]
      clear hk
      go_enter Tryz.func59, Tryz.ntmps59
      go_wp2_with fail
      refine (HO.out _).mono ?_
      rintro e w2 ⟨rfl, hb2⟩
      have e0 := (KX.out _ hb2).cell 0
      have e1 := (KX.out _ hb2).cell 1
      have lz := (KX.out _ hb2).lt
      simp only [List.getElem?_toArray, List.getElem?_cons_zero, List.getElem?_cons_succ] at e0 e1
      have HB2 := Lib.hid (BX.out.trans (hb2.mono BX.out.size))
      clear hb2 BX KX HO
      have HD := Lib.hid (fun W h => impl_dectext n (by omega) (by omega) W (HPW.out W h))
      clear hn0 hn1
      go_wp2_with fail
      refine (HD.out _ HB2.out).mono ?_
      rintro e w3 ⟨rfl, hb3⟩
      have HB3 := Lib.hid (HB2.out.trans (hb3.mono HB2.out.size))
      clear hb3 HB2 e0 e1
      go_wp2_with fail
      go_ret
      exact ⟨rfl, HB3.out⟩
    rw [if_neg h0]
    by_cases h1 : k = 1
    · subst h1
      rw [if_pos rfl]
      clear hk
      go_enter Tryz.func59, Tryz.ntmps59
      go_wp2_with fail
      refine (HO.out _).mono ?_
      rintro e w2 ⟨rfl, hb2⟩
      have e0 := (KX.out _ hb2).cell 0
      have e1 := (KX.out _ hb2).cell 1
      have lz := (KX.out _ hb2).lt
      simp only [List.getElem?_toArray, List.getElem?_cons_zero, List.getElem?_cons_succ] at e0 e1
      have HB2 := Lib.hid (BX.out.trans (hb2.mono BX.out.size))
      clear hb2 BX KX HO
      have HP := Lib.hid (fun W => impl_primname n W)
      clear hn0 hn1
      go_wp2_with fail
      refine (HP.out _).mono ?_
      rintro e w3 ⟨rfl, hb3⟩
      have HB3 := Lib.hid (HB2.out.trans (hb3.mono HB2.out.size))
      clear hb3 HB2 e0 e1
      go_wp2_with fail
      go_ret
      exact ⟨rfl, HB3.out⟩
    rw [if_neg h1]
    by_cases h2 : k = 2
    · subst h2
      rw [if_pos rfl]
      have hr2 := okOp_two hk
      clear hk
      by_cases hnn : (N : Int) ≤ n
      · rw [getD_out (by rw [HN.out]; exact hnn)]
        go_enter Tryz.func59, Tryz.ntmps59
        go_wp2_with fail
        refine (HO.out _).mono ?_
        rintro e w2 ⟨rfl, hb2⟩
        have e0 := (KX.out _ hb2).cell 0
        have e1 := (KX.out _ hb2).cell 1
        have lz := (KX.out _ hb2).lt
        simp only [List.getElem?_toArray, List.getElem?_cons_zero, List.getElem?_cons_succ] at e0 e1
        have HB2 := Lib.hid (BX.out.trans (hb2.mono BX.out.size))
        clear hb2 BX KX HO
        go_wp2_with fail
        go_ret
        exact ⟨rfl, HB2.out⟩
      · obtain ⟨i, rfl⟩ : ∃ i : Nat, n = (i : Int) := ⟨n.toNat, by omega⟩
        have hi : i < ds.length := by rw [HN.out]; omega
        rw [getD_in hi rfl]
        have HI := Lib.hid (fun W h => (HR.out W h).item hi)
        have HNI := Lib.hid (HNM.out i hi)
        obtain ⟨nm, hnm⟩ : ∃ nm, ds[i].1 = nm := ⟨_, rfl⟩
        rw [hnm] at HI HNI ⊢
        have i1 : (0 : Int) ≤ (i : Int) := by omega
        have i2 : (i : Int) < (N : Int) := by omega
        clear hnm HNM HR hr2
        go_enter Tryz.func59, Tryz.ntmps59
        go_wp2_with fail
        refine (HO.out _).mono ?_
        rintro e w2 ⟨rfl, hb2⟩
        have e0 := (KX.out _ hb2).cell 0
        have e1 := (KX.out _ hb2).cell 1
        have lz := (KX.out _ hb2).lt
        simp only [List.getElem?_toArray, List.getElem?_cons_zero, List.getElem?_cons_succ] at e0 e1
        have HB2 := Lib.hid (BX.out.trans (hb2.mono BX.out.size))
        clear hb2 BX KX HO
        obtain ⟨a, B, m, bc, rfl, -, c0, -, -, -⟩ := HI.out _ HB2.out
        clear HI
        go_wp2_with fail
        refine (clone_any nm HNI.out _).mono ?_
        rintro e w3 ⟨rfl, hb3⟩
        have HB3 := Lib.hid (HB2.out.trans (hb3.mono HB2.out.size))
        clear hb3 HB2 e0 e1 c0
        go_wp2_with fail
        go_ret
        exact ⟨rfl, HB3.out⟩
    rw [if_neg h2]
    have h3 := okOp_rest hk h0 h1 h2
    clear hk h0 h1 h2 HR HNM
    rcases h3 with rfl | rfl | rfl | rfl | rfl | rfl
    all_goals
      go_enter Tryz.func59, Tryz.ntmps59
      go_wp2_with fail
      refine (HO.out _).mono ?_
      rintro e w2 ⟨rfl, hb2⟩
      have e0 := (KX.out _ hb2).cell 0
      have e1 := (KX.out _ hb2).cell 1
      have lz := (KX.out _ hb2).lt
      simp only [List.getElem?_toArray, List.getElem?_cons_zero, List.getElem?_cons_succ] at e0 e1
      have HB2 := Lib.hid (BX.out.trans (hb2.mono BX.out.size))
      clear hb2 BX KX HO
      have s3 : w2.cell? ⟨0, 3, none⟩ = some (.string ⟨#[105, 102]⟩) := (HSG.out _ HB2.out).cell 3
      have s4 : w2.cell? ⟨0, 4, none⟩ = some (.string ⟨#[45, 105, 102]⟩) := (HSG.out _ HB2.out).cell 4
      have s5 : w2.cell? ⟨0, 5, none⟩ = some (.string ⟨#[116, 104, 101, 110]⟩) := (HSG.out _ HB2.out).cell 5
      have s6 : w2.cell? ⟨0, 6, none⟩ = some (.string ⟨#[102, 111, 114]⟩) := (HSG.out _ HB2.out).cell 6
      have s7 : w2.cell? ⟨0, 7, none⟩ = some (.string ⟨#[110, 101, 120, 116]⟩) := (HSG.out _ HB2.out).cell 7
      have s8 : w2.cell? ⟨0, 8, none⟩ = some (.string ⟨#[59]⟩) := (HSG.out _ HB2.out).cell 8
      go_wp2_with fail
      go_ret
      exact ⟨rfl, HB2.out⟩
end Go.Proofs.YtlkkobffgbjkpaaGreatDoor
