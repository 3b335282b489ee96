/-
  impl.awaited.
-/
import Derived.Test.YtlkkobffgbjkpaaLimbs
import Derived.Test.YtlkkobffgbjkpaaStackOp
import Derived.Test.YtlkkobffgbjkpaaOpenS
import Derived.Test.YtlkkobffgbjkpaaShapeS
import Derived.Deep.RegionHeld3
namespace Go.Proofs.Ytlkkobffgbjkpaa
open Go.RowKit Go

/-- What awaited tells. -/
def AwaitEnd (xs : List (Int × Int)) (w : World) (e : Ending) (w' : World) : Prop :=
  (∃ st A cap, waitG xs [] = some st ∧ e = .returned (.tuple #[.slice A st.length cap, .bool true]) ∧ Below w.heap.size w w') ∨ (waitG xs [] = none ∧ e = .returned (.tuple #[.slice none 0 0, .bool false]) ∧ Below w.heap.size w w')
set_option maxRecDepth 100000 in
set_option maxHeartbeats 2000000 in
theorem await_long (xs : List (Int × Int)) (hl : ¬ xs.length ≤ 60) (v : Value) (w : World) (hr : RdS w v xs) : Calls Try.prog 44 #[v] w fun e w' => e = .returned (.tuple #[.slice none 0 0, .bool false]) ∧ Below w.heap.size w w' := by
  obtain ⟨A, cap, rfl⟩ := hr.form
  obtain ⟨N, hN⟩ : ∃ N, xs.length = N := ⟨_, rfl⟩
  rw [hN]
  have h60 : 60 < N := by omega
  have h60' : (60 : Int) < (N : Int) := by omega
  clear hr hl hN
  go_enter Try.func44, Try.ntmps44
  go_wp2_with fail
  go_ret2
  exact ⟨rfl, by go_grown⟩
set_option maxRecDepth 100000 in
set_option maxHeartbeats 8000000 in
theorem await_short (xs : List (Int × Int)) (hl : xs.length ≤ 60) (hrg : RngO xs) (v : Value) (w : World) (hr : RdS w v xs) : Calls Try.prog 44 #[v] w (AwaitEnd xs w) := by
  obtain ⟨R, hR⟩ : ∃ R, waitG xs [] = R := ⟨_, rfl⟩
  unfold AwaitEnd
  rw [hR]
  obtain ⟨A, cap, rfl⟩ := hr.form
  obtain ⟨N, hN⟩ : ∃ N, xs.length = N := ⟨_, rfl⟩
  have HR := Lib.hid (fun W (h : Below w.heap.size w W) => hr.below h)
  have HRR := Lib.hid hR
  have HN := Lib.hid hN
  have HG := Lib.hid hrg
  have ST := Lib.hid (show StackAt (w.alloc (.cells #[.slice none 0 0] 70)) w.heap.size w.heap.size (([] : List Int).map endOf) from ⟨⟨_, Blk.new w _ _, World.ownsRow_nil _ _ _ _⟩, Nat.le_refl _⟩)
  have BEL := Lib.hid (below_alloc1 w (.cells #[.slice none 0 0] 70))
  rw [hN]
  have h60 : N ≤ 60 := by omega
  have h60' : ¬ (60 : Int) < (N : Int) := by omega
  clear hr hrg hR hl hN
  go_enter Try.func44, Try.ntmps44
  go_wp2_with fail
  go_loopw [17] (fun vi wr => ∃ (i : Nat) (st : List Int), vi = .int .i64 i ∧ i ≤ N ∧ st.length ≤ i ∧ Hid (Below w.heap.size w wr) ∧ Hid (waitG (xs.drop i) st = R) ∧ Hid (StackAt wr w.heap.size w.heap.size (st.map endOf))) (fun vi _ => N - (intOf vi).toNat)
  case atStart => exact ⟨0, [], rfl, by omega, by simp, BEL, HRR, ST⟩
  case round =>
    obtain ⟨i, st, rfl, hi, hst, HB, HO, HS⟩ := hrel
    clear HRR ST BEL
    by_cases hp : i < N
    · have hp' : i < xs.length := by rw [HN.out]; exact hp
      obtain ⟨a, rfl, la, p0, p1⟩ := (HR.out wr HB.out).item hp'
      obtain ⟨x, hx⟩ : ∃ x, xs[i] = x := ⟨_, rfl⟩
      have hrx := HG.out x (by rw [← hx]; exact List.getElem_mem hp')
      obtain ⟨k, n⟩ := x
      have hd : xs.drop i = (k, n) :: xs.drop (i + 1) := by rw [List.drop_eq_getElem_cons hp', hx]
      rw [hx] at p0 p1
      rw [hd] at HO
      have i1 : (0 : Int) ≤ (i : Int) := by omega
      have i2 : (i : Int) < (N : Int) := by omega
      have HRX := Lib.hid hrx
      clear hx hd la hp' hrx
      by_cases hb : okOp (k, n) = true ∧ k ≠ 5 ∧ k ≠ 7
      · by_cases h3 : k = 3
        · subst h3
          rw [wait_open hb.1 (by simp)] at HO
          have HSM := Lib.hid (fun W (h : Below wr.heap.size wr W) => HS.out.below h)
          have HLM := Lib.hid (fun W => limb_if n true hb.1 HRX.out.1 HRX.out.2 W)
          have hm : (st.map endOf).length ≤ 1000 := by rw [List.length_map]; omega
          have HM := Lib.hid hm
          clear hm hb HS
          go_wp2_with fail
          refine (bare_any 3 n _).mono ?_
          rintro e w2 ⟨rfl, hb2⟩
          have B2 := Lib.hid ((below_alloc1 wr (.cells #[.int .i64 3, .int .i32 n] 75)).trans (hb2.mono (below_alloc1 wr (.cells #[.int .i64 3, .int .i32 n] 75)).size))
          clear hb2
          go_wp2_with fail
          refine (HLM.out _).mono ?_
          rintro e w3 ⟨rfl, hb3⟩
          have B3 := Lib.hid (B2.out.trans (hb3.mono B2.out.size))
          clear hb3 B2 p0 p1
          go_wp2_with fail
          refine (inside_fork 3 n _).mono ?_
          rintro e w4 ⟨rfl, hb4⟩
          have B4 := Lib.hid (B3.out.trans (hb4.mono B3.out.size))
          clear hb4 B3
          go_wp2_with fail
          have B5 := Lib.hid (B4.out.alloc B4.out.size (.cells #[.int .i64 5, .int .i32 0] 75))
          refine (push_any w.heap.size w.heap.size (st.map endOf) 5 0 _ HM.out (HSM.out _ B5.out)).mono ?_
          rintro e w5 ⟨rfl, hs5, hb5⟩
          have HB6 := Lib.hid ((HB.out.trans (B5.out.mono HB.out.size)).trans hb5)
          have HS6 : Hid (StackAt w5 w.heap.size w.heap.size ((st ++ [3]).map endOf)) := Lib.hid (by rw [List.map_append]; exact hs5)
          clear hs5 hb5 B5 HSM HLM HM HB
          go_wp2_with fail
          go_roundw
          case rel => exact ⟨i + 1, st ++ [3], by go_num, by omega, by rw [List.length_append]; simp; omega, HB6, HO, HS6⟩
          case measure => simp [intOf]; omega
        by_cases h3 : k = 4
        · subst h3
          rw [wait_open hb.1 (by simp)] at HO
          have HSM := Lib.hid (fun W (h : Below wr.heap.size wr W) => HS.out.below h)
          have HLM := Lib.hid (fun W => limb_unless n true hb.1 HRX.out.1 HRX.out.2 W)
          have hm : (st.map endOf).length ≤ 1000 := by rw [List.length_map]; omega
          have HM := Lib.hid hm
          clear hm hb HS
          go_wp2_with fail
          refine (bare_any 4 n _).mono ?_
          rintro e w2 ⟨rfl, hb2⟩
          have B2 := Lib.hid ((below_alloc1 wr (.cells #[.int .i64 4, .int .i32 n] 75)).trans (hb2.mono (below_alloc1 wr (.cells #[.int .i64 4, .int .i32 n] 75)).size))
          clear hb2
          go_wp2_with fail
          refine (HLM.out _).mono ?_
          rintro e w3 ⟨rfl, hb3⟩
          have B3 := Lib.hid (B2.out.trans (hb3.mono B2.out.size))
          clear hb3 B2 p0 p1
          go_wp2_with fail
          refine (inside_fork 4 n _).mono ?_
          rintro e w4 ⟨rfl, hb4⟩
          have B4 := Lib.hid (B3.out.trans (hb4.mono B3.out.size))
          clear hb4 B3
          go_wp2_with fail
          have B5 := Lib.hid (B4.out.alloc B4.out.size (.cells #[.int .i64 5, .int .i32 0] 75))
          refine (push_any w.heap.size w.heap.size (st.map endOf) 5 0 _ HM.out (HSM.out _ B5.out)).mono ?_
          rintro e w5 ⟨rfl, hs5, hb5⟩
          have HB6 := Lib.hid ((HB.out.trans (B5.out.mono HB.out.size)).trans hb5)
          have HS6 : Hid (StackAt w5 w.heap.size w.heap.size ((st ++ [4]).map endOf)) := Lib.hid (by rw [List.map_append]; exact hs5)
          clear hs5 hb5 B5 HSM HLM HM HB
          go_wp2_with fail
          go_roundw
          case rel => exact ⟨i + 1, st ++ [4], by go_num, by omega, by rw [List.length_append]; simp; omega, HB6, HO, HS6⟩
          case measure => simp [intOf]; omega
        by_cases h3 : k = 6
        · subst h3
          rw [wait_open hb.1 (by simp)] at HO
          have HSM := Lib.hid (fun W (h : Below wr.heap.size wr W) => HS.out.below h)
          have HLM := Lib.hid (fun W => limb_for n true hb.1 HRX.out.1 HRX.out.2 W)
          have hm : (st.map endOf).length ≤ 1000 := by rw [List.length_map]; omega
          have HM := Lib.hid hm
          clear hm hb HS
          go_wp2_with fail
          refine (bare_any 6 n _).mono ?_
          rintro e w2 ⟨rfl, hb2⟩
          have B2 := Lib.hid ((below_alloc1 wr (.cells #[.int .i64 6, .int .i32 n] 75)).trans (hb2.mono (below_alloc1 wr (.cells #[.int .i64 6, .int .i32 n] 75)).size))
          clear hb2
          go_wp2_with fail
          refine (HLM.out _).mono ?_
          rintro e w3 ⟨rfl, hb3⟩
          have B3 := Lib.hid (B2.out.trans (hb3.mono B2.out.size))
          clear hb3 B2 p0 p1
          go_wp2_with fail
          refine (inside_loop 6 n _).mono ?_
          rintro e w4 ⟨rfl, hb4⟩
          have B4 := Lib.hid (B3.out.trans (hb4.mono B3.out.size))
          clear hb4 B3
          go_wp2_with fail
          have B5 := Lib.hid (B4.out.alloc B4.out.size (.cells #[.int .i64 7, .int .i32 0] 75))
          refine (push_any w.heap.size w.heap.size (st.map endOf) 7 0 _ HM.out (HSM.out _ B5.out)).mono ?_
          rintro e w5 ⟨rfl, hs5, hb5⟩
          have HB6 := Lib.hid ((HB.out.trans (B5.out.mono HB.out.size)).trans hb5)
          have HS6 : Hid (StackAt w5 w.heap.size w.heap.size ((st ++ [6]).map endOf)) := Lib.hid (by rw [List.map_append]; exact hs5)
          clear hs5 hb5 B5 HSM HLM HM HB
          go_wp2_with fail
          go_roundw
          case rel => exact ⟨i + 1, st ++ [6], by go_num, by omega, by rw [List.length_append]; simp; omega, HB6, HO, HS6⟩
          case measure => simp [intOf]; omega
        rename_i n3 n4
        have hk5 : k ≠ 3 ∧ k ≠ 4 ∧ k ≠ 5 ∧ k ≠ 6 ∧ k ≠ 7 := ⟨n3, n4, hb.2.1, h3, hb.2.2⟩
        rw [wait_leaf hb.1 hk5] at HO
        have HSM := Lib.hid (fun W (h : Below wr.heap.size wr W) => HS.out.below h)
        have HLM := Lib.hid (fun W => limb_leaf_true k n hk5 hb.1 HRX.out.1 HRX.out.2 W)
        clear hb hk5 n3 n4 h3 HS
        go_wp2_with fail
        refine (bare_any k n _).mono ?_
        rintro e w2 ⟨rfl, hb2⟩
        have B2 := Lib.hid ((below_alloc1 wr (.cells #[.int .i64 k, .int .i32 n] 75)).trans (hb2.mono (below_alloc1 wr (.cells #[.int .i64 k, .int .i32 n] 75)).size))
        clear hb2
        go_wp2_with fail
        refine (HLM.out _).mono ?_
        rintro e w3 ⟨rfl, hb3⟩
        have B3 := Lib.hid (B2.out.trans (hb3.mono B2.out.size))
        clear hb3 B2 p0 p1
        go_wp2_with fail
        refine (inside_leaf k n _).mono ?_
        rintro e w4 ⟨rfl, hb4⟩
        have B4 := Lib.hid (B3.out.trans (hb4.mono B3.out.size))
        clear hb4 B3
        have B5 := Lib.hid (B4.out.alloc B4.out.size (.cells #[.int .i64 0, .int .i32 0] 75))
        have HS6 := Lib.hid (HSM.out _ B5.out)
        have HB6 := Lib.hid (HB.out.trans (B5.out.mono HB.out.size))
        clear B5 HSM HLM HB
        go_wp2_with fail
        go_roundw
        case rel => exact ⟨i + 1, st, by go_num, by omega, by omega, HB6, HO, HS6⟩
        case measure => simp [intOf]; omega
      · have HLM := Lib.hid (fun W => limb_none k n hb HRX.out.1 HRX.out.2 W)
        have HSM := Lib.hid (fun W (h : Below wr.heap.size wr W) => HS.out.below h)
        have HBOX := Lib.hid (fun W (h : Below (wr.alloc (.cells #[.int .i64 k, .int .i32 n] 75)).heap.size (wr.alloc (.cells #[.int .i64 k, .int .i32 n] 75)) W) => (Blk.new wr 75 #[.int .i64 k, .int .i32 n]).below h (Blk.new wr 75 #[.int .i64 k, .int .i32 n]).lt)
        rcases List.eq_nil_or_concat st with rfl | ⟨l, q, rfl⟩
        · rw [wait_none hb] at HO
          have HE : Hid (R = none) := Lib.hid HO.out.symm
          clear hb HO HS
          go_wp2_with fail
          refine (bare_any k n _).mono ?_
          rintro e w2 ⟨rfl, hb2⟩
          have B2 := Lib.hid ((below_alloc1 wr (.cells #[.int .i64 k, .int .i32 n] 75)).trans (hb2.mono (below_alloc1 wr (.cells #[.int .i64 k, .int .i32 n] 75)).size))
          clear hb2
          go_wp2_with fail
          refine (HLM.out _).mono ?_
          rintro e w3 ⟨⟨t, u, hlm⟩, hb3⟩
          have B3 := Lib.hid (B2.out.trans (hb3.mono B2.out.size))
          clear hb3 B2 p0 p1
          obtain ⟨⟨v3, hv3, ho3⟩, -⟩ := HSM.out _ B3.out
          obtain ⟨A3, c3, rfl⟩ := own_formS ho3
          have e0 : w3.cell? ⟨w.heap.size, 0, none⟩ = some (.slice A3 0 c3) := hv3.cell 0
          have HB6 := Lib.hid (HB.out.trans (B3.out.mono HB.out.size))
          clear hv3 ho3 B3 HSM HBOX HLM HB
          rcases hlm with rfl | rfl
          all_goals
            go_wp2_with fail
            go_quiet (fail)
            go_wp2_with fail
            go_ret2
            exact .inr ⟨HE.out, rfl, by first | exact HB6.out | exact HB6.out.drew | exact below_drewN HB6.out _⟩
        · simp only [List.concat_eq_append] at hst HS HO HSM
          rw [wait_pop hb] at HO
          obtain ⟨m, hm⟩ : ∃ m, l.length = m := ⟨_, rfl⟩
          have hlen : ((l ++ [q]).map endOf).length = m + 1 := by simp [hm]
          have hst2 : m + 1 ≤ i := by have : (l ++ [q]).length = m + 1 := by simp [hm]
                                      omega
          have HM : Hid ((l.map endOf).length ≤ 1000) := Lib.hid (by rw [List.length_map, hm]; omega)
          have HL := Lib.hid hm
          have HNE : Hid (w.heap.size < wr.heap.size) := Lib.hid (by obtain ⟨⟨v3, hv3, -⟩, -⟩ := HS.out; exact hv3.lt)
          have hmb : m ≤ 60 := by omega
          have m0 : ((m : Int) + 1 == 0) = false := by simp; omega
          obtain ⟨oo, hoo⟩ : ∃ oo, endOf q = oo := ⟨_, rfl⟩
          obtain ⟨s0, z0⟩ := oo
          rw [List.map_append, List.map_cons, List.map_nil, hoo] at hlen HSM
          rw [hoo] at HO
          clear hb hst hm hoo HS
          by_cases hq : (s0, z0) = (k, n)
          · rw [if_pos hq] at HO
            have hneq : ∀ W, (binOp .neq 75 (.agg #[.int .i64 s0, .int .i32 z0]) (.agg #[.int .i64 k, .int .i32 n])).run Try.prog W = .ok (.bool false) W := fun W => by rw [op_neq]; simp [hq]
            clear hq
            go_wp2_with fail
            refine (bare_any k n _).mono ?_
            rintro e w2 ⟨rfl, hb2⟩
            have B2a := Lib.hid hb2
            have B2 := Lib.hid ((below_alloc1 wr (.cells #[.int .i64 k, .int .i32 n] 75)).trans (hb2.mono (below_alloc1 wr (.cells #[.int .i64 k, .int .i32 n] 75)).size))
            clear hb2
            go_wp2_with fail
            refine (HLM.out _).mono ?_
            rintro e w3 ⟨⟨t, u, hlm⟩, hb3⟩
            have B3a := Lib.hid (B2a.out.trans (hb3.mono B2a.out.size))
            have B3 := Lib.hid (B2.out.trans (hb3.mono B2.out.size))
            clear hb3 B2 B2a p0 p1
            have HST3 := Lib.hid (HSM.out _ B3.out)
            have HBX3 := Lib.hid (HBOX.out _ B3a.out)
            obtain ⟨⟨v3, hv3, ho3⟩, -⟩ := HST3.out
            obtain ⟨A3, c3, rfl⟩ := own_formS ho3
            rw [hlen] at hv3
            have e0 : w3.cell? ⟨w.heap.size, 0, none⟩ = some (.slice A3 (m + 1) c3) := hv3.cell 0
            have e1 : w3.cell? ⟨wr.heap.size, 0, none⟩ = some (.int .i64 k) := HBX3.out.cell 0
            have e2 : w3.cell? ⟨wr.heap.size, 1, none⟩ = some (.int .i32 n) := HBX3.out.cell 1
            have HPOP := Lib.hid (fun W (h : Below w3.heap.size w3 W) => pop_last w.heap.size w.heap.size (l.map endOf) s0 z0 HM.out W (HST3.out.below h))
            have HBK : Hid (∀ W W', Below w3.heap.size w3 W → W.grownBy W' (some w.heap.size) → Blk W' wr.heap.size 75 #[.int .i64 k, .int .i32 n]) := Lib.hid (fun W W' h1 h2 => (HBX3.out.below h1 HBX3.out.lt).grown h2 (fun e => by injection e with e; have := HNE.out; omega))
            have HB6 := Lib.hid (HB.out.trans (B3.out.mono HB.out.size))
            have BD : Hid (Below w3.heap.size w3 w3.drew) := Lib.hid (Below.refl _ _).drew
            clear hv3 ho3 B3 B3a HSM HBOX HLM HB HST3 HBX3 hlen
            rcases hlm with rfl | rfl
            all_goals
              go_wp2_with fail
              first | (go_region_with (go_at_call 96; refine (HPOP.out _ (by first | exact Below.refl _ _ | exact BD.out)).mono ?_; rintro e w9 ⟨rfl, hs9, hb9, hg9⟩; have HS9 := Lib.hid hs9; have HB9 := Lib.hid hb9; have hx9 := HBK.out _ _ (by first | exact Below.refl _ _ | exact BD.out) hg9; have e1 := hx9.cell 0; have e2 := hx9.cell 1; clear hs9 hb9 hg9 hx9)) | fail
              all_goals
                have HW9 := Lib.hid ((HB6.out.trans (BD.out.mono HB6.out.size)).trans HB9.out)
                go_wp2_with fail
                go_roundw
                case rel => exact ⟨i + 1, l, by go_num, by omega, by have := HL.out; omega, HW9, HO, HS9⟩
                case measure => simp [intOf]; omega
          · rw [if_neg hq] at HO
            have HE : Hid (R = none) := Lib.hid HO.out.symm
            have hneq : ∀ W, (binOp .neq 75 (.agg #[.int .i64 s0, .int .i32 z0]) (.agg #[.int .i64 k, .int .i32 n])).run Try.prog W = .ok (.bool true) W := fun W => by rw [op_neq]; simp [hq]
            clear hq HO
            go_wp2_with fail
            refine (bare_any k n _).mono ?_
            rintro e w2 ⟨rfl, hb2⟩
            have B2a := Lib.hid hb2
            have B2 := Lib.hid ((below_alloc1 wr (.cells #[.int .i64 k, .int .i32 n] 75)).trans (hb2.mono (below_alloc1 wr (.cells #[.int .i64 k, .int .i32 n] 75)).size))
            clear hb2
            go_wp2_with fail
            refine (HLM.out _).mono ?_
            rintro e w3 ⟨⟨t, u, hlm⟩, hb3⟩
            have B3a := Lib.hid (B2a.out.trans (hb3.mono B2a.out.size))
            have B3 := Lib.hid (B2.out.trans (hb3.mono B2.out.size))
            clear hb3 B2 B2a p0 p1
            have HST3 := Lib.hid (HSM.out _ B3.out)
            have HBX3 := Lib.hid (HBOX.out _ B3a.out)
            obtain ⟨⟨v3, hv3, ho3⟩, -⟩ := HST3.out
            obtain ⟨A3, c3, rfl⟩ := own_formS ho3
            rw [hlen] at hv3
            have e0 : w3.cell? ⟨w.heap.size, 0, none⟩ = some (.slice A3 (m + 1) c3) := hv3.cell 0
            have e1 : w3.cell? ⟨wr.heap.size, 0, none⟩ = some (.int .i64 k) := HBX3.out.cell 0
            have e2 : w3.cell? ⟨wr.heap.size, 1, none⟩ = some (.int .i32 n) := HBX3.out.cell 1
            have HPOP := Lib.hid (fun W (h : Below w3.heap.size w3 W) => pop_last w.heap.size w.heap.size (l.map endOf) s0 z0 HM.out W (HST3.out.below h))
            have HBK : Hid (∀ W W', Below w3.heap.size w3 W → W.grownBy W' (some w.heap.size) → Blk W' wr.heap.size 75 #[.int .i64 k, .int .i32 n]) := Lib.hid (fun W W' h1 h2 => (HBX3.out.below h1 HBX3.out.lt).grown h2 (fun e => by injection e with e; have := HNE.out; omega))
            have HB6 := Lib.hid (HB.out.trans (B3.out.mono HB.out.size))
            have BD : Hid (Below w3.heap.size w3 w3.drew) := Lib.hid (Below.refl _ _).drew
            clear hv3 ho3 B3 B3a HSM HBOX HLM HB HST3 HBX3 hlen
            rcases hlm with rfl | rfl
            all_goals
              go_wp2_with fail
              first | (go_region_with (go_at_call 96; refine (HPOP.out _ (by first | exact Below.refl _ _ | exact BD.out)).mono ?_; rintro e w9 ⟨rfl, hs9, hb9, hg9⟩; have HS9 := Lib.hid hs9; have HB9 := Lib.hid hb9; have hx9 := HBK.out _ _ (by first | exact Below.refl _ _ | exact BD.out) hg9; have e1 := hx9.cell 0; have e2 := hx9.cell 1; clear hs9 hb9 hg9 hx9)) | fail
              all_goals
                have HW9 := Lib.hid ((HB6.out.trans (BD.out.mono HB6.out.size)).trans HB9.out)
                go_wp2_with fail
                go_ret2
                exact .inr ⟨HE.out, rfl, HW9.out⟩
    · obtain rfl : i = N := by omega
      have HE : Hid (R = some st) := Lib.hid (by have := HO.out; rw [List.drop_of_length_le (by rw [HN.out]; exact Nat.le_refl _)] at this; exact this.symm)
      obtain ⟨⟨v3, hv3, ho3⟩, -⟩ := HS.out
      obtain ⟨A3, c3, rfl⟩ := own_formS ho3
      rw [List.length_map] at hv3
      have e0 : wr.cell? ⟨w.heap.size, 0, none⟩ = some (.slice A3 st.length c3) := hv3.cell 0
      clear hv3 ho3 HO HS
      go_wp2_with fail
      go_ret2
      exact .inl ⟨st, A3, c3, HE.out, rfl, HB.out⟩
end Go.Proofs.Ytlkkobffgbjkpaa
