/-
  impl.awaited.
  impl.ShapeOk.
  impl.DefsOk.
  impl.CodeOf.
  spec.DrawCodeOf: definitions and whether tails are wanted.
-/
import Derived.Test.YtofikgjoiidhmaaGreatDoorCD9
import Derived.Test.YtofikgjoiidhmaaGreatDoorCD3
import Derived.Test.YtofikgjoiidhmaaGreatDoorCD4
import Derived.Deep.RegionHeld3
import Derived.Handy
import Derived.Test.YtofikgjoiidhmaaGreatDoorCD8
import Derived.Test.YtofikgjoiidhmaaGreatDoorCD5
import Derived.BigQuiet
import Derived.Test.YtofikgjoiidhmaaGreatDoorCD6
namespace Go.Proofs.YtofikgjoiidhmaaGreatDoor
open Go.RowKit Go

/-- What awaited tells. -/
def AwaitEnd (xs : List (Int × Int)) (w : World) (e : Ending) (w' : World) : Prop :=
  (∃ st A cap, waitG xs [] = some st ∧ e = .returned (.tuple #[.slice A st.length cap, .bool true]) ∧ Below w.heap.size w w') ∨ (waitG xs [] = none ∧ e = .returned (.tuple #[.slice none 0 0, .bool false]) ∧ Below w.heap.size w w')
set_option maxRecDepth 100000 in
set_option maxHeartbeats 2000000 in
theorem await_long (xs : List (Int × Int)) (hl : ¬ xs.length ≤ 60) (v : Value) (w : World) (hr : RdS w v xs) : Calls Tryz.prog 134 #[v] w fun e w' => e = .returned (.tuple #[.slice none 0 0, .bool false]) ∧ Below w.heap.size w w' := by
  obtain ⟨A, cap, rfl⟩ := hr.form
  obtain ⟨N, hN⟩ : ∃ N, xs.length = N := ⟨_, rfl⟩
  rw [hN]
  have h60 : 60 < N := by omega
  have h60' : (60 : Int) < (N : Int) := by omega
  clear hr hl hN
  go_enter Tryz.func134, Tryz.ntmps134
  go_wp2_with fail
  go_ret2
  exact ⟨rfl, by go_grown⟩
set_option maxRecDepth 100000 in
set_option maxHeartbeats 8000000 in
theorem await_short (xs : List (Int × Int)) (hl : xs.length ≤ 60) (hrg : RngO xs) (v : Value) (w : World) (hr : RdS w v xs) : Calls Tryz.prog 134 #[v] w (AwaitEnd xs w) := by
  obtain ⟨R, hR⟩ : ∃ R, waitG xs [] = R := ⟨_, rfl⟩
  unfold AwaitEnd
  rw [hR]
  obtain ⟨A, cap, rfl⟩ := hr.form
  obtain ⟨N, hN⟩ : ∃ N, xs.length = N := ⟨_, rfl⟩
  have HR := Lib.hid (fun W (h : Below w.heap.size w W) => hr.below h)
  have HRR := Lib.hid hR
  have HN := Lib.hid hN
  have HG := Lib.hid hrg
  have ST := Lib.hid (show StackAt (w.alloc (.cells #[.slice none 0 0] 150)) w.heap.size w.heap.size (([] : List Int).map endOf) from ⟨⟨_, Blk.new w _ _, World.ownsRow_nil _ _ _ _⟩, Nat.le_refl _⟩)
  have BEL := Lib.hid (below_alloc1 w (.cells #[.slice none 0 0] 150))
  rw [hN]
  have h60 : N ≤ 60 := by omega
  have h60' : ¬ (60 : Int) < (N : Int) := by omega
  clear hr hrg hR hl hN
  go_enter Tryz.func134, Tryz.ntmps134
  go_wp2_with fail
  go_loopw [17] (fun vi wr => ∃ (i : Nat) (st : List Int), vi = .int .i64 i ∧ i ≤ N ∧ st.length ≤ i ∧ Hid (Below w.heap.size w wr) ∧ Hid (waitG (xs.drop i) st = R) ∧ Hid (StackAt wr w.heap.size w.heap.size (st.map endOf))) (fun vi _ => N - (intOf vi).toNat)
  case atStart => exact ⟨0, [], rfl, by omega, by simp, BEL, HRR, ST⟩
  case round =>
    obtain ⟨i, st, rfl, hi, hst, HB, HO, HS⟩ := hrel
    clear HRR ST BEL
    by_cases hp : i < N
    · have hp' : i < xs.length := by rw [HN.out]; exact hp
      obtain ⟨a, rfl, la, p0, p1⟩ := (HR.out wr HB.out).item hp'
      obtain ⟨x, hx⟩ : ∃ x, xs[i] = x := ⟨_, rfl⟩
      have hrx := HG.out x (by rw [← hx]; exact List.getElem_mem hp')
      obtain ⟨k, n⟩ := x
      have hd : xs.drop i = (k, n) :: xs.drop (i + 1) := by rw [List.drop_eq_getElem_cons hp', hx]
      rw [hx] at p0 p1
      rw [hd] at HO
      have i1 : (0 : Int) ≤ (i : Int) := by omega
      have i2 : (i : Int) < (N : Int) := by omega
      have HRX := Lib.hid hrx
      clear hx hd la hp' hrx
      by_cases hb : okOp (k, n) = true ∧ k ≠ 5 ∧ k ≠ 7
      · by_cases h3 : k = 3
        · subst h3
          rw [wait_open hb.1 (by simp)] at HO
          have HSM := Lib.hid (fun W (h : Below wr.heap.size wr W) => HS.out.below h)
          have HLM := Lib.hid (fun W => limb_if n true hb.1 HRX.out.1 HRX.out.2 W)
          have hm : (st.map endOf).length ≤ 1000 := by rw [List.length_map]; omega
          have HM := Lib.hid hm
          clear hm hb HS
          go_wp2_with fail
          refine (bare_any 3 n _).mono ?_
          rintro e w2 ⟨rfl, hb2⟩
          have B2 := Lib.hid ((below_alloc1 wr (.cells #[.int .i64 3, .int .i32 n] 70)).trans (hb2.mono (below_alloc1 wr (.cells #[.int .i64 3, .int .i32 n] 70)).size))
          clear hb2
          go_wp2_with fail
          refine (HLM.out _).mono ?_
          rintro e w3 ⟨rfl, hb3⟩
          have B3 := Lib.hid (B2.out.trans (hb3.mono B2.out.size))
          clear hb3 B2 p0 p1
          go_wp2_with fail
          refine (inside_fork 3 n _).mono ?_
          rintro e w4 ⟨rfl, hb4⟩
          have B4 := Lib.hid (B3.out.trans (hb4.mono B3.out.size))
          clear hb4 B3
          go_wp2_with fail
          have B5 := Lib.hid (B4.out.alloc B4.out.size (.cells #[.int .i64 5, .int .i32 0] 70))
          refine (push_any w.heap.size w.heap.size (st.map endOf) 5 0 _ HM.out (HSM.out _ B5.out)).mono ?_
          rintro e w5 ⟨rfl, hs5, hb5⟩
          have HB6 := Lib.hid ((HB.out.trans (B5.out.mono HB.out.size)).trans hb5)
          have HS6 : Hid (StackAt w5 w.heap.size w.heap.size ((st ++ [3]).map endOf)) := Lib.hid (by rw [List.map_append]; exact hs5)
          clear hs5 hb5 B5 HSM HLM HM HB
          go_wp2_with fail
          go_roundw
          case rel => exact ⟨i + 1, st ++ [3], by go_num, by omega, by rw [List.length_append]; simp; omega, HB6, HO, HS6⟩
          case measure => simp [intOf]; omega
        by_cases h3 : k = 4
        · subst h3
          rw [wait_open hb.1 (by simp)] at HO
          have HSM := Lib.hid (fun W (h : Below wr.heap.size wr W) => HS.out.below h)
          have HLM := Lib.hid (fun W => limb_unless n true hb.1 HRX.out.1 HRX.out.2 W)
          have hm : (st.map endOf).length ≤ 1000 := by rw [List.length_map]; omega
          have HM := Lib.hid hm
          clear hm hb HS
          go_wp2_with fail
          refine (bare_any 4 n _).mono ?_
          rintro e w2 ⟨rfl, hb2⟩
          have B2 := Lib.hid ((below_alloc1 wr (.cells #[.int .i64 4, .int .i32 n] 70)).trans (hb2.mono (below_alloc1 wr (.cells #[.int .i64 4, .int .i32 n] 70)).size))
          clear hb2
          go_wp2_with fail
          refine (HLM.out _).mono ?_
          rintro e w3 ⟨rfl, hb3⟩
          have B3 := Lib.hid (B2.out.trans (hb3.mono B2.out.size))
          clear hb3 B2 p0 p1
          go_wp2_with fail
          refine (inside_fork 4 n _).mono ?_
          rintro e w4 ⟨rfl, hb4⟩
          have B4 := Lib.hid (B3.out.trans (hb4.mono B3.out.size))
          clear hb4 B3
          go_wp2_with fail
          have B5 := Lib.hid (B4.out.alloc B4.out.size (.cells #[.int .i64 5, .int .i32 0] 70))
          refine (push_any w.heap.size w.heap.size (st.map endOf) 5 0 _ HM.out (HSM.out _ B5.out)).mono ?_
          rintro e w5 ⟨rfl, hs5, hb5⟩
          have HB6 := Lib.hid ((HB.out.trans (B5.out.mono HB.out.size)).trans hb5)
          have HS6 : Hid (StackAt w5 w.heap.size w.heap.size ((st ++ [4]).map endOf)) := Lib.hid (by rw [List.map_append]; exact hs5)
          clear hs5 hb5 B5 HSM HLM HM HB
          go_wp2_with fail
          go_roundw
          case rel => exact ⟨i + 1, st ++ [4], by go_num, by omega, by rw [List.length_append]; simp; omega, HB6, HO, HS6⟩
          case measure => simp [intOf]; omega
        by_cases h3 : k = 6
        · subst h3
          rw [wait_open hb.1 (by simp)] at HO
          have HSM := Lib.hid (fun W (h : Below wr.heap.size wr W) => HS.out.below h)
          have HLM := Lib.hid (fun W => limb_for n true hb.1 HRX.out.1 HRX.out.2 W)
          have hm : (st.map endOf).length ≤ 1000 := by rw [List.length_map]; omega
          have HM := Lib.hid hm
          clear hm hb HS
          go_wp2_with fail
          refine (bare_any 6 n _).mono ?_
          rintro e w2 ⟨rfl, hb2⟩
          have B2 := Lib.hid ((below_alloc1 wr (.cells #[.int .i64 6, .int .i32 n] 70)).trans (hb2.mono (below_alloc1 wr (.cells #[.int .i64 6, .int .i32 n] 70)).size))
          clear hb2
          go_wp2_with fail
          refine (HLM.out _).mono ?_
          rintro e w3 ⟨rfl, hb3⟩
          have B3 := Lib.hid (B2.out.trans (hb3.mono B2.out.size))
          clear hb3 B2 p0 p1
          go_wp2_with fail
          refine (inside_loop 6 n _).mono ?_
          rintro e w4 ⟨rfl, hb4⟩
          have B4 := Lib.hid (B3.out.trans (hb4.mono B3.out.size))
          clear hb4 B3
          go_wp2_with fail
          have B5 := Lib.hid (B4.out.alloc B4.out.size (.cells #[.int .i64 7, .int .i32 0] 70))
          refine (push_any w.heap.size w.heap.size (st.map endOf) 7 0 _ HM.out (HSM.out _ B5.out)).mono ?_
          rintro e w5 ⟨rfl, hs5, hb5⟩
          have HB6 := Lib.hid ((HB.out.trans (B5.out.mono HB.out.size)).trans hb5)
          have HS6 : Hid (StackAt w5 w.heap.size w.heap.size ((st ++ [6]).map endOf)) := Lib.hid (by rw [List.map_append]; exact hs5)
          clear hs5 hb5 B5 HSM HLM HM HB
          go_wp2_with fail
          go_roundw
          case rel => exact ⟨i + 1, st ++ [6], by go_num, by omega, by rw [List.length_append]; simp; omega, HB6, HO, HS6⟩
          case measure => simp [intOf]; omega
        rename_i n3 n4
        have hk5 : k ≠ 3 ∧ k ≠ 4 ∧ k ≠ 5 ∧ k ≠ 6 ∧ k ≠ 7 := ⟨n3, n4, hb.2.1, h3, hb.2.2⟩
        rw [wait_leaf hb.1 hk5] at HO
        have HSM := Lib.hid (fun W (h : Below wr.heap.size wr W) => HS.out.below h)
        have HLM := Lib.hid (fun W => limb_leaf_true k n hk5 hb.1 HRX.out.1 HRX.out.2 W)
        clear hb hk5 n3 n4 h3 HS
        go_wp2_with fail
        refine (bare_any k n _).mono ?_
        rintro e w2 ⟨rfl, hb2⟩
        have B2 := Lib.hid ((below_alloc1 wr (.cells #[.int .i64 k, .int .i32 n] 70)).trans (hb2.mono (below_alloc1 wr (.cells #[.int .i64 k, .int .i32 n] 70)).size))
        clear hb2
        go_wp2_with fail
        refine (HLM.out _).mono ?_
        rintro e w3 ⟨rfl, hb3⟩
        have B3 := Lib.hid (B2.out.trans (hb3.mono B2.out.size))
        clear hb3 B2 p0 p1
        go_wp2_with fail
        refine (inside_leaf k n _).mono ?_
        rintro e w4 ⟨rfl, hb4⟩
        have B4 := Lib.hid (B3.out.trans (hb4.mono B3.out.size))
        clear hb4 B3
        have B5 := Lib.hid (B4.out.alloc B4.out.size (.cells #[.int .i64 0, .int .i32 0] 70))
        have HS6 := Lib.hid (HSM.out _ B5.out)
        have HB6 := Lib.hid (HB.out.trans (B5.out.mono HB.out.size))
        clear B5 HSM HLM HB
        go_wp2_with fail
        go_roundw
        case rel => exact ⟨i + 1, st, by go_num, by omega, by omega, HB6, HO, HS6⟩
        case measure => simp [intOf]; omega
      · have HLM := Lib.hid (fun W => limb_none k n hb HRX.out.1 HRX.out.2 W)
        have HSM := Lib.hid (fun W (h : Below wr.heap.size wr W) => HS.out.below h)
        have HBOX := Lib.hid (fun W (h : Below (wr.alloc (.cells #[.int .i64 k, .int .i32 n] 70)).heap.size (wr.alloc (.cells #[.int .i64 k, .int .i32 n] 70)) W) => (Blk.new wr 70 #[.int .i64 k, .int .i32 n]).below h (Blk.new wr 70 #[.int .i64 k, .int .i32 n]).lt)
        rcases List.eq_nil_or_concat st with rfl | ⟨l, q, rfl⟩
        · rw [wait_none hb] at HO
          have HE : Hid (R = none) := Lib.hid HO.out.symm
          clear hb HO HS
          go_wp2_with fail
          refine (bare_any k n _).mono ?_
          rintro e w2 ⟨rfl, hb2⟩
          have B2 := Lib.hid ((below_alloc1 wr (.cells #[.int .i64 k, .int .i32 n] 70)).trans (hb2.mono (below_alloc1 wr (.cells #[.int .i64 k, .int .i32 n] 70)).size))
          clear hb2
          go_wp2_with fail
          refine (HLM.out _).mono ?_
          rintro e w3 ⟨⟨t, u, hlm⟩, hb3⟩
          have B3 := Lib.hid (B2.out.trans (hb3.mono B2.out.size))
          clear hb3 B2 p0 p1
          obtain ⟨⟨v3, hv3, ho3⟩, -⟩ := HSM.out _ B3.out
          obtain ⟨A3, c3, rfl⟩ := own_formS ho3
          have e0 : w3.cell? ⟨w.heap.size, 0, none⟩ = some (.slice A3 0 c3) := hv3.cell 0
          have HB6 := Lib.hid (HB.out.trans (B3.out.mono HB.out.size))
          clear hv3 ho3 B3 HSM HBOX HLM HB
          rcases hlm with rfl | rfl
          all_goals
            go_wp2_with fail
            go_quiet (fail)
            go_wp2_with fail
            go_ret2
            exact .inr ⟨HE.out, rfl, by first | exact HB6.out | exact HB6.out.drew | exact below_drewN HB6.out _⟩
        · simp only [List.concat_eq_append] at hst HS HO HSM
          rw [wait_pop hb] at HO
          obtain ⟨m, hm⟩ : ∃ m, l.length = m := ⟨_, rfl⟩
          have hlen : ((l ++ [q]).map endOf).length = m + 1 := by simp [hm]
          have hst2 : m + 1 ≤ i := by have : (l ++ [q]).length = m + 1 := by simp [hm]
                                      omega
          have HM : Hid ((l.map endOf).length ≤ 1000) := Lib.hid (by rw [List.length_map, hm]; omega)
          have HL := Lib.hid hm
          have HNE : Hid (w.heap.size < wr.heap.size) := Lib.hid (by obtain ⟨⟨v3, hv3, -⟩, -⟩ := HS.out; exact hv3.lt)
          have hmb : m ≤ 60 := by omega
          have m0 : ((m : Int) + 1 == 0) = false := by simp; omega
          obtain ⟨oo, hoo⟩ : ∃ oo, endOf q = oo := ⟨_, rfl⟩
          obtain ⟨s0, z0⟩ := oo
          rw [List.map_append, List.map_cons, List.map_nil, hoo] at hlen HSM
          rw [hoo] at HO
          clear hb hst hm hoo HS
          by_cases hq : (s0, z0) = (k, n)
          · rw [if_pos hq] at HO
            have hneq : ∀ W, (binOp .neq 70 (.agg #[.int .i64 s0, .int .i32 z0]) (.agg #[.int .i64 k, .int .i32 n])).run Tryz.prog W = .ok (.bool false) W := fun W => by rw [op_neq]; simp [hq]
            clear hq
            go_wp2_with fail
            refine (bare_any k n _).mono ?_
            rintro e w2 ⟨rfl, hb2⟩
            have B2a := Lib.hid hb2
            have B2 := Lib.hid ((below_alloc1 wr (.cells #[.int .i64 k, .int .i32 n] 70)).trans (hb2.mono (below_alloc1 wr (.cells #[.int .i64 k, .int .i32 n] 70)).size))
            clear hb2
            go_wp2_with fail
            refine (HLM.out _).mono ?_
            rintro e w3 ⟨⟨t, u, hlm⟩, hb3⟩
            have B3a := Lib.hid (B2a.out.trans (hb3.mono B2a.out.size))
            have B3 := Lib.hid (B2.out.trans (hb3.mono B2.out.size))
            clear hb3 B2 B2a p0 p1
            have HST3 := Lib.hid (HSM.out _ B3.out)
            have HBX3 := Lib.hid (HBOX.out _ B3a.out)
            obtain ⟨⟨v3, hv3, ho3⟩, -⟩ := HST3.out
            obtain ⟨A3, c3, rfl⟩ := own_formS ho3
            rw [hlen] at hv3
            have e0 : w3.cell? ⟨w.heap.size, 0, none⟩ = some (.slice A3 (m + 1) c3) := hv3.cell 0
            have e1 : w3.cell? ⟨wr.heap.size, 0, none⟩ = some (.int .i64 k) := HBX3.out.cell 0
            have e2 : w3.cell? ⟨wr.heap.size, 1, none⟩ = some (.int .i32 n) := HBX3.out.cell 1
            have HPOP := Lib.hid (fun W (h : Below w3.heap.size w3 W) => pop_last w.heap.size w.heap.size (l.map endOf) s0 z0 HM.out W (HST3.out.below h))
            have HBK : Hid (∀ W W', Below w3.heap.size w3 W → W.grownBy W' (some w.heap.size) → Blk W' wr.heap.size 70 #[.int .i64 k, .int .i32 n]) := Lib.hid (fun W W' h1 h2 => (HBX3.out.below h1 HBX3.out.lt).grown h2 (fun e => by injection e with e; have := HNE.out; omega))
            have HB6 := Lib.hid (HB.out.trans (B3.out.mono HB.out.size))
            have BD : Hid (Below w3.heap.size w3 w3.drew) := Lib.hid (Below.refl _ _).drew
            clear hv3 ho3 B3 B3a HSM HBOX HLM HB HST3 HBX3 hlen
            rcases hlm with rfl | rfl
            all_goals
              go_wp2_with fail
              first | (go_region_with (go_at_call 158; refine (HPOP.out _ (by first | exact Below.refl _ _ | exact BD.out)).mono ?_; rintro e w9 ⟨rfl, hs9, hb9, hg9⟩; have HS9 := Lib.hid hs9; have HB9 := Lib.hid hb9; have hx9 := HBK.out _ _ (by first | exact Below.refl _ _ | exact BD.out) hg9; have e1 := hx9.cell 0; have e2 := hx9.cell 1; clear hs9 hb9 hg9 hx9)) | fail
              all_goals
                have HW9 := Lib.hid ((HB6.out.trans (BD.out.mono HB6.out.size)).trans HB9.out)
                go_wp2_with fail
                go_roundw
                case rel => exact ⟨i + 1, l, by go_num, by omega, by have := HL.out; omega, HW9, HO, HS9⟩
                case measure => simp [intOf]; omega
          · rw [if_neg hq] at HO
            have HE : Hid (R = none) := Lib.hid HO.out.symm
            have hneq : ∀ W, (binOp .neq 70 (.agg #[.int .i64 s0, .int .i32 z0]) (.agg #[.int .i64 k, .int .i32 n])).run Tryz.prog W = .ok (.bool true) W := fun W => by rw [op_neq]; simp [hq]
            clear hq HO
            go_wp2_with fail
            refine (bare_any k n _).mono ?_
            rintro e w2 ⟨rfl, hb2⟩
            have B2a := Lib.hid hb2
            have B2 := Lib.hid ((below_alloc1 wr (.cells #[.int .i64 k, .int .i32 n] 70)).trans (hb2.mono (below_alloc1 wr (.cells #[.int .i64 k, .int .i32 n] 70)).size))
            clear hb2
            go_wp2_with fail
            refine (HLM.out _).mono ?_
            rintro e w3 ⟨⟨t, u, hlm⟩, hb3⟩
            have B3a := Lib.hid (B2a.out.trans (hb3.mono B2a.out.size))
            have B3 := Lib.hid (B2.out.trans (hb3.mono B2.out.size))
            clear hb3 B2 B2a p0 p1
            have HST3 := Lib.hid (HSM.out _ B3.out)
            have HBX3 := Lib.hid (HBOX.out _ B3a.out)
            obtain ⟨⟨v3, hv3, ho3⟩, -⟩ := HST3.out
            obtain ⟨A3, c3, rfl⟩ := own_formS ho3
            rw [hlen] at hv3
            have e0 : w3.cell? ⟨w.heap.size, 0, none⟩ = some (.slice A3 (m + 1) c3) := hv3.cell 0
            have e1 : w3.cell? ⟨wr.heap.size, 0, none⟩ = some (.int .i64 k) := HBX3.out.cell 0
            have e2 : w3.cell? ⟨wr.heap.size, 1, none⟩ = some (.int .i32 n) := HBX3.out.cell 1
            have HPOP := Lib.hid (fun W (h : Below w3.heap.size w3 W) => pop_last w.heap.size w.heap.size (l.map endOf) s0 z0 HM.out W (HST3.out.below h))
            have HBK : Hid (∀ W W', Below w3.heap.size w3 W → W.grownBy W' (some w.heap.size) → Blk W' wr.heap.size 70 #[.int .i64 k, .int .i32 n]) := Lib.hid (fun W W' h1 h2 => (HBX3.out.below h1 HBX3.out.lt).grown h2 (fun e => by injection e with e; have := HNE.out; omega))
            have HB6 := Lib.hid (HB.out.trans (B3.out.mono HB.out.size))
            have BD : Hid (Below w3.heap.size w3 w3.drew) := Lib.hid (Below.refl _ _).drew
            clear hv3 ho3 B3 B3a HSM HBOX HLM HB HST3 HBX3 hlen
            rcases hlm with rfl | rfl
            all_goals
              go_wp2_with fail
              first | (go_region_with (go_at_call 158; refine (HPOP.out _ (by first | exact Below.refl _ _ | exact BD.out)).mono ?_; rintro e w9 ⟨rfl, hs9, hb9, hg9⟩; have HS9 := Lib.hid hs9; have HB9 := Lib.hid hb9; have hx9 := HBK.out _ _ (by first | exact Below.refl _ _ | exact BD.out) hg9; have e1 := hx9.cell 0; have e2 := hx9.cell 1; clear hs9 hb9 hg9 hx9)) | fail
              all_goals
                have HW9 := Lib.hid ((HB6.out.trans (BD.out.mono HB6.out.size)).trans HB9.out)
                go_wp2_with fail
                go_ret2
                exact .inr ⟨HE.out, rfl, HW9.out⟩
    · obtain rfl : i = N := by omega
      have HE : Hid (R = some st) := Lib.hid (by have := HO.out; rw [List.drop_of_length_le (by rw [HN.out]; exact Nat.le_refl _)] at this; exact this.symm)
      obtain ⟨⟨v3, hv3, ho3⟩, -⟩ := HS.out
      obtain ⟨A3, c3, rfl⟩ := own_formS ho3
      rw [List.length_map] at hv3
      have e0 : wr.cell? ⟨w.heap.size, 0, none⟩ = some (.slice A3 st.length c3) := hv3.cell 0
      clear hv3 ho3 HO HS
      go_wp2_with fail
      go_ret2
      exact .inl ⟨st, A3, c3, HE.out, rfl, HB.out⟩
end Go.Proofs.YtofikgjoiidhmaaGreatDoor

namespace Go.Proofs.YtofikgjoiidhmaaGreatDoor
open Go.RowKit Go

set_option maxHeartbeats 1000000 in
theorem impl_shape (xs : List (Int × Int)) (hrg : RngO xs) (v : Value) (w : World) (hr : RdS w v xs) : Calls Tryz.prog 72 #[v] w fun e w' => e = .returned (.bool (shapeB xs)) ∧ Below w.heap.size w w' := by
  rw [shape_wait]
  by_cases hl : xs.length ≤ 60
  · have HC := Lib.hid (await_short xs hl hrg v w hr)
    obtain ⟨R, hR⟩ : ∃ R, (decide (xs.length ≤ 60) && decide (waitG xs [] = some [])) = R := ⟨_, rfl⟩
    rw [hR]
    have HRR := Lib.hid hR
    have HL := Lib.hid hl
    clear hR hl hr hrg
    go_enter Tryz.func72, Tryz.ntmps72
    go_wp2_with fail
    refine HC.out.mono ?_
    rintro e w2 (⟨st, A2, c2, ho, rfl, hb2⟩ | ⟨ho, rfl, hb2⟩)
    · have HE : Hid (R = decide (st.length = 0)) := Lib.hid (by
        have h1 := HRR.out
        rw [ho] at h1
        rw [← h1]
        have := HL.out
        simp [this])
      have HB2 := Lib.hid hb2
      obtain ⟨m, hm⟩ : ∃ m, st.length = m := ⟨_, rfl⟩
      rw [hm] at HE ⊢
      clear ho hb2 hm HC HRR
      by_cases h0 : m = 0
      · subst h0
        go_wp2_with fail
        go_ret
        exact ⟨by rw [HE.out]; rfl, HB2.out⟩
      · have q0 : ((m : Int) == 0) = false := by simp; omega
        have HE2 : Hid (R = false) := Lib.hid (by rw [HE.out]; simpa using h0)
        clear HE h0
        go_wp2_with fail
        go_ret
        exact ⟨by rw [HE2.out]; rfl, HB2.out⟩
    · have HE : Hid (R = false) := Lib.hid (by
        have h1 := HRR.out
        rw [ho] at h1
        simpa using h1.symm)
      have HB2 := Lib.hid hb2
      clear ho hb2 HC HRR
      go_wp2_with fail
      go_ret
      exact ⟨by rw [HE.out]; rfl, HB2.out⟩
  · have HC := Lib.hid (await_long xs hl v w hr)
    have hs : (decide (xs.length ≤ 60) && decide (waitG xs [] = some [])) = false := by simp [hl]
    rw [hs]
    clear hs hl hr hrg
    go_enter Tryz.func72, Tryz.ntmps72
    go_wp2_with fail
    refine HC.out.mono ?_
    rintro e w2 ⟨rfl, hb2⟩
    have HB2 := Lib.hid hb2
    clear hb2 HC
    go_wp2_with fail
    go_ret
    exact ⟨rfl, HB2.out⟩
end Go.Proofs.YtofikgjoiidhmaaGreatDoor

namespace Go.Proofs.YtofikgjoiidhmaaGreatDoor
open Go.RowKit Go

set_option maxRecDepth 100000 in
set_option maxHeartbeats 2000000 in
theorem impl_defs_long (ds : List Df) (hl : ¬ ds.length ≤ 24) (hs : SmD ds) (v : Value) (w : World) (hr : RdD w v ds) : Calls Tryz.prog 31 #[v] w fun e w' => e = .returned (.bool (okDefs ds)) ∧ Below w.heap.size w w' := by
  have he : okDefs ds = false := by unfold okDefs; simp [hl]
  rw [he]
  obtain ⟨A, cap, rfl⟩ := hr.form
  have hs1 := hs.1
  obtain ⟨N, hN⟩ : ∃ N, ds.length = N := ⟨_, rfl⟩
  rw [hN] at hl hs1 ⊢
  have h60 : 24 < N := by omega
  have h60' : (24 : Int) < (N : Int) := by omega
  clear hr he hl hN hs
  go_enter Tryz.func31, Tryz.ntmps31
  go_wp2_with fail
  go_ret
  exact ⟨rfl, by go_grown⟩
set_option maxRecDepth 100000 in
set_option maxHeartbeats 8000000 in
theorem impl_defs_short (ds : List Df) (hl : ds.length ≤ 24) (hs : SmD ds) (v : Value) (w : World) (hr : RdD w v ds) : Calls Tryz.prog 31 #[v] w fun e w' => e = .returned (.bool (okDefs ds)) ∧ Below w.heap.size w w' := by
  obtain ⟨R, hR⟩ : ∃ R, okDefs ds = R := ⟨_, rfl⟩
  rw [hR]
  obtain ⟨A, cap, rfl⟩ := hr.form
  have HR := Lib.hid (fun W (h : Below w.heap.size w W) => hr.below h)
  have HEND := Lib.hid (fun h => (okDefs_all hl h).symm.trans hR)
  have HNO := Lib.hid (fun i (hi : i < ds.length) h => hR.symm.trans (okDefs_not (ds := ds) hi h))
  have HST := Lib.hid (fun i (hi : i < ds.length) => all_step (p := okDf ds.length) hi)
  have HSM := Lib.hid hs.2
  obtain ⟨N, hN⟩ : ∃ N, ds.length = N := ⟨_, rfl⟩
  rw [hN] at HEND
  have HN := Lib.hid hN
  rw [hN] at hl ⊢
  have h24 : ¬ (24 : Int) < (N : Int) := by omega
  clear hr hs hR hN
  go_enter Tryz.func31, Tryz.ntmps31
  go_wp2_with fail
  go_loopw [10] (fun vi wr => ∃ i : Nat, vi = .int .i64 i ∧ i ≤ N ∧ Hid (Below w.heap.size w wr) ∧ Hid ((ds.take i).all (okDf ds.length) = true)) (fun vi _ => N - (intOf vi).toNat)
  case atStart => exact ⟨0, rfl, by omega, Lib.hid (Below.refl _ _), Lib.hid (by simp)⟩
  case round =>
    obtain ⟨i, rfl, hi, HB, HA⟩ := hrel
    by_cases hp : i < N
    · have hp' : i < ds.length := by rw [HN.out]; exact hp
      obtain ⟨a, B, m, bc, rfl, la, p0, p1, r0, em⟩ := (HR.out wr HB.out).item hp'
      have HNO2 := Lib.hid (HNO.out i hp')
      have HST2 := Lib.hid (HST.out i hp' HA.out)
      have hsm := HSM.out _ (List.getElem_mem hp')
      rw [HN.out] at HNO2 HST2
      obtain ⟨x, hx⟩ : ∃ x, ds[i] = x := ⟨_, rfl⟩
      rw [hx] at p0 r0 em HNO2 HST2 hsm
      obtain ⟨nm, xs⟩ := x
      simp only at p0 r0 em hsm
      obtain ⟨hsz, hxl, hrg⟩ := hsm
      have LA : Hid ((a.add (i * 2)).block < wr.heap.size) := Lib.hid (by rw [addr_addb]; exact la)
      have HNM := Lib.hid (fun W => impl_nameok nm (by omega) W)
      have HSH := Lib.hid (fun W (h : Below wr.heap.size wr W) => impl_shape xs hrg (.slice B m bc) W (r0.below h))
      have HRX := Lib.hid (fun W (h : Below wr.heap.size wr W) => r0.below h)
      have HRG := Lib.hid (show RngO xs from hrg)
      have hm : m ≤ 1048576 := by omega
      have HXM := Lib.hid em
      have i1 : (0 : Int) ≤ (i : Int) := by omega
      have i2 : (i : Int) < (N : Int) := by omega
      clear hx la hp' hsz hxl hrg r0 em HA
      have BX : Hid (Below wr.heap.size wr (wr.alloc (.cells #[.string nm, .slice B m bc] 60))) := Lib.hid (below_alloc1 wr _)
      have KX := Lib.hid (fun W (h : Below (wr.alloc (.cells #[.string nm, .slice B m bc] 60)).heap.size (wr.alloc (.cells #[.string nm, .slice B m bc] 60)) W) => ((Blk.new wr 60 #[.string nm, .slice B m bc]).below h (Blk.new wr 60 #[.string nm, .slice B m bc]).lt))
      cases hn : nameOk nm with
      | false =>
        rw [hn] at HNM
        have HE : Hid (R = false) := Lib.hid (HNO2.out (by simp [okDf, hn]))
        have HB2 := Lib.hid (HB.out.trans (BX.out.mono HB.out.size))
        clear hn HNO2 HST2 HSH HRX KX BX HB
        go_wp2_with fail
        refine (HNM.out _).mono ?_
        rintro e w2 ⟨rfl, rfl⟩
        go_wp2_with fail
        go_ret
        exact ⟨by rw [HE.out]; rfl, HB2.out⟩
      | true =>
        rw [hn] at HNM
        cases hsh : shapeB xs with
        | false =>
          rw [hsh] at HSH
          have HE : Hid (R = false) := Lib.hid (HNO2.out (by simp [okDf, hsh]))
          clear hn hsh HNO2 HST2 HRX KX
          go_wp2_with fail
          refine (HNM.out _).mono ?_
          rintro e w2 ⟨rfl, rfl⟩
          go_wp2_with fail
          refine (HSH.out _ BX.out).mono ?_
          rintro e w3 ⟨rfl, hb3⟩
          have HB2 := Lib.hid (HB.out.trans ((BX.out.trans (hb3.mono BX.out.size)).mono HB.out.size))
          clear hb3 BX HB
          go_wp2_with fail
          go_ret
          exact ⟨by rw [HE.out]; rfl, HB2.out⟩
        | true =>
          rw [hsh] at HSH
          have HCA := Lib.hid (fun W h => impl_calls xs HRG.out (.slice B m bc) N W (HRX.out W h))
          have HOK : Hid (okDf N (nm, xs) = xs.all (okC N)) := Lib.hid (by simp [okDf, hn, hsh])
          clear hn hsh HRX
          go_wp2_with fail
          refine (HNM.out _).mono ?_
          rintro e w2 ⟨rfl, rfl⟩
          go_wp2_with fail
          refine (HSH.out _ BX.out).mono ?_
          rintro e w3 ⟨rfl, hb3⟩
          have e1 : w3.cell? ⟨wr.heap.size, 1, none⟩ = some (.slice B m bc) := (KX.out _ hb3).cell 1
          have B3 := Lib.hid (BX.out.trans (hb3.mono BX.out.size))
          clear hb3 BX HSH KX
          go_wp2_with fail
          refine (HCA.out _ B3.out).mono ?_
          rintro e w4 ⟨rfl, hb4⟩
          have HB2 := Lib.hid (HB.out.trans ((B3.out.trans (hb4.mono B3.out.size)).mono HB.out.size))
          clear hb4 B3 HB e1
          cases hc : xs.all (okC N) with
          | false =>
            have HE : Hid (R = false) := Lib.hid (HNO2.out (by rw [HOK.out, hc]))
            clear hc HNO2 HST2 HOK
            go_wp2_with fail
            go_ret
            exact ⟨by rw [HE.out]; rfl, HB2.out⟩
          | true =>
            have HA2 : Hid ((ds.take (i + 1)).all (okDf ds.length) = true) := Lib.hid (by have := HST2.out (by rw [HOK.out, hc]); rw [HN.out]; exact this)
            clear hc HNO2 HST2 HOK
            go_wp2_with fail
            go_roundw
            case rel => exact ⟨i + 1, by go_num, by omega, HB2, HA2⟩
            case measure => simp [intOf]; omega
    · obtain rfl : i = N := by omega
      have HE : Hid (R = true) := Lib.hid (by have := HEND.out (by rw [← HN.out]; have := HA.out; rw [← HN.out] at this; exact this); exact this.symm)
      clear HA HR HEND HNO HST
      go_wp2_with fail
      go_ret
      exact ⟨by rw [HE.out]; rfl, HB.out⟩
theorem impl_defs (ds : List Df) (hs : SmD ds) (v : Value) (w : World) (hr : RdD w v ds) : Calls Tryz.prog 31 #[v] w fun e w' => e = .returned (.bool (okDefs ds)) ∧ Below w.heap.size w w' := by
  by_cases hl : ds.length ≤ 24
  · exact impl_defs_short ds hl hs v w hr
  · exact impl_defs_long ds hl hs v w hr
end Go.Proofs.YtofikgjoiidhmaaGreatDoor

namespace Go.Proofs.YtofikgjoiidhmaaGreatDoor
open Go.RowKit Go

/-- Definitions that can be read, each body with room for its length. -/
def RdDc (w : World) (v : Value) (ds : List Df) : Prop :=
  ∃ (A : Option Addr) (cap : Nat), v = .slice A ds.length cap ∧ ∀ i (h : i < ds.length), ∃ a vb, A = some a ∧ a.block < w.heap.size ∧ w.cell? (a.add (i * 2)) = some (.string ds[i].1) ∧ w.cell? ((a.add (i * 2)).add 1) = some vb ∧ RdR w vb ds[i].2
theorem RdDc.rd {w : World} {v : Value} {ds : List Df} (h : RdDc w v ds) : RdD w v ds := by
  obtain ⟨A, cap, rfl, hc⟩ := h
  exact ⟨A, cap, rfl, fun i hi => by obtain ⟨a, vb, e1, e2, e3, e4, e5⟩ := hc i hi; exact ⟨a, vb, e1, e2, e3, e4, e5.1⟩⟩
theorem RdDc.below {w w' : World} {v : Value} {ds : List Df} (h : RdDc w v ds) (hb : Below w.heap.size w w') : RdDc w' v ds := by
  obtain ⟨A, cap, rfl, hc⟩ := h
  refine ⟨A, cap, rfl, fun i hi => ?_⟩
  obtain ⟨a, vb, rfl, e2, e3, e4, e5⟩ := hc i hi
  exact ⟨a, vb, rfl, by have := hb.size; omega, (hb.cell (by rw [addr_addb]; exact e2)).trans e3, (hb.cell (by rw [addr_addb, addr_addb]; exact e2)).trans e4, e5.below hb⟩
theorem RdDc.item {w : World} {A : Option Addr} {n cap : Nat} {ds : List Df} (h : RdDc w (.slice A n cap) ds) {i : Nat} (hi : i < ds.length) : ∃ a B m bc, A = some a ∧ a.block < w.heap.size ∧ w.cell? (a.add (i * 2)) = some (.string ds[i].1) ∧ w.cell? ⟨(a.add (i * 2)).block, (a.add (i * 2)).off + 1, none⟩ = some (.slice B m bc) ∧ RdR w (.slice B m bc) ds[i].2 ∧ m = ds[i].2.length := by
  obtain ⟨A3, c4, hv4, hc4⟩ := h
  injection hv4 with e1 e2 e3
  subst e1 e3
  obtain ⟨a, vb, rfl, hb, q0, q1, q2⟩ := hc4 i hi
  obtain ⟨q3, B, bc, rfl, h9⟩ := q2
  exact ⟨a, B, _, bc, rfl, hb, q0, q1, ⟨q3, B, bc, rfl, h9⟩, rfl⟩
theorem RdR.blocks {w : World} {v : Value} {xs : List (Int × Int)} (h : RdR w v xs) (hx : 0 < xs.length) : ∀ a n c, v = .slice (some a) n c → a.block < w.heap.size := by
  intro a n c e
  obtain ⟨⟨A, cap, rfl, hl, hc⟩, -⟩ := h
  obtain ⟨a2, rfl, e2, -⟩ := hc 0 hx
  injection e with e1 e3 e4
  injection e1 with e1
  subst e1
  exact e2
theorem src_int (w : World) (n : Int) : SrcAt (w.alloc (.cells #[.int .i64 n] 3)) 1 (.slice (some ⟨w.heap.size, 0, none⟩) 1 1) 1 [.int .i64 n] := by
  refine ⟨_, _, rfl, rfl, fun h => by simp at h, fun q hq j x hj => ?_⟩
  obtain rfl : q = ⟨w.heap.size, 0, none⟩ := by injection hq with hq; exact hq.symm
  rw [addr_lit, cell_of_row _ w.heap.size (0 + j) #[.int .i64 n] 3 (0, 0) (heap_alloc_new w _), Nat.zero_add]
  simpa using hj
theorem okDefs_len2 {ds : List Df} (h : okDefs ds = true) : ds.length ≤ 24 ∧ ∀ d ∈ ds, d.2.length ≤ 60 := by
  refine ⟨(okDefs_each h).1, fun d hd => ?_⟩
  have := (okDf_shape ((okDefs_each h).2 d hd)).1
  unfold shapeB at this
  simp only [Bool.and_eq_true, decide_eq_true_eq] at this
  exact this.1
/-- The numbers of places. -/
def natI (l : List Nat) : List Int := l.map fun (n : Nat) => (n : Int)
/-- The maker that begins. -/
theorem mk_new (w : World) : MkAt w.heap.size w.heap.size (w.alloc (.cells #[.slice none 0 0, .slice none 0 0, .slice none 0 0, .slice none 0 0] 64)) [] [] [] [] [] :=
  ⟨_, _, _, _, [], [], ⟨Blk.new w _ _, World.ownsRow_nil _ _ _ _, World.ownsRow_nil _ _ _ _, World.ownsRow_nil _ _ _ _, World.ownsRow_nil _ _ _ _, fun k hk => by simp [Value.ownBlock] at hk, fun p hp => by simp at hp, Nat.le_refl _⟩, .nil, .nil⟩
theorem codes_take {tail : Bool} {tss : List (List Tr)} {i : Nat} {ts : List Tr} (h : tss[i]? = some ts) : codesL tail 0 (tss.take (i + 1)) = codesL tail 0 (tss.take i) ++ codeL tail false (widesL tail (tss.take i)) ts ∧ startsL tail 0 (tss.take (i + 1)) = startsL tail 0 (tss.take i) ++ [widesL tail (tss.take i)] := by
  rw [List.take_add_one, h, codesL_app, startsL_app]
  simp [codesL, startsL]
theorem open_ok {D top a : Nat} {xs : List Cd} (h : ∀ c ∈ xs, CdOk D top c) {p : Nat × Nat} (hp : p ∈ openC a xs) : p.2 < D := by
  induction xs generalizing a with
  | nil => simp [openC] at hp
  | cons c r ih =>
    obtain ⟨o, n⟩ := c
    cases n with
    | inl n => exact ih (fun c hc => h c (List.mem_cons_of_mem _ hc)) hp
    | inr k =>
      simp only [openC, List.mem_cons] at hp
      rcases hp with rfl | hp
      · exact (h (o, .inr k) (List.mem_cons_self ..)).2
      · exact ih (fun c hc => h c (List.mem_cons_of_mem _ hc)) hp
theorem fill_suffix (f : Nat → Int) (suf : List (Int × Int)) : ∀ (ps : List (Nat × Nat)) (l : List (Int × Int)), (∀ p ∈ ps, p.1 < l.length) → ps.foldl (fill1 f) (l ++ suf) = ps.foldl (fill1 f) l ++ suf := by
  intro ps
  induction ps with
  | nil => intro l _; rfl
  | cons p r ih =>
    intro l h
    have hp := h p (List.mem_cons_self ..)
    have e : fill1 f (l ++ suf) p = fill1 f l p ++ suf := by
      unfold fill1
      rw [List.set_append_left _ _ hp, List.getElem?_append_left hp]
    rw [List.foldl_cons, List.foldl_cons, e, ih]
    intro q hq
    rw [fill1_len]
    exact h q (List.mem_cons_of_mem _ hq)
/-- What CodeOf tells of definitions that are right. -/
def CodeEnd (w : World) (l : List (Int × Int)) (s : List Int) (e : Ending) (w' : World) : Prop :=
  ∃ v1 v2, e = .returned (.tuple #[v1, v2]) ∧ w'.ownsRow w.heap.size 72 2 v1 l.length (cdv l) ∧ w'.ownsRow w.heap.size 3 1 v2 s.length (s.map lv) ∧ Below w.heap.size w w'
theorem impl_codeof_not (ds : List Df) (hsm : SmD ds) (hok : okDefs ds = false) (tail : Bool) (v : Value) (w : World) (hr : RdD w v ds) : Calls Tryz.prog 9 #[v, .bool tail] w (CodeEnd w [] []) := by
  have HD := Lib.hid (impl_defs ds hsm v w hr)
  rw [hok] at HD
  obtain ⟨A, cap, rfl⟩ := hr.form
  obtain ⟨N, hN⟩ : ∃ N, ds.length = N := ⟨_, rfl⟩
  rw [hN] at HD ⊢
  clear hr hok hsm hN
  go_enter Tryz.func9, Tryz.ntmps9
  go_wp2_with fail
  refine HD.out.mono ?_
  rintro e w2 ⟨rfl, hb2⟩
  have HB2 := Lib.hid hb2
  clear hb2
  go_wp2_with fail
  go_ret2
  exact ⟨_, _, rfl, World.ownsRow_nil _ _ _ _, World.ownsRow_nil _ _ _ _, HB2.out⟩
set_option maxRecDepth 100000 in
set_option maxHeartbeats 8000000 in
theorem impl_codeof (ds : List Df) (hsm : SmD ds) (hok : okDefs ds = true) (tss : List (List Tr)) (hM : MadeC ds tss) (tail : Bool) (v : Value) (w : World) (hr : RdDc w v ds) : Calls Tryz.prog 9 #[v, .bool tail] w (CodeEnd w (codeV tail tss) (natI (startsL tail 0 tss))) := by
  have HD := Lib.hid (impl_defs ds hsm v w hr.rd)
  rw [hok] at HD
  have HR := Lib.hid (fun W (h : Below w.heap.size w W) => hr.below h)
  have HRL := Lib.hid hr
  obtain ⟨A, cap, rfl⟩ := hr.rd.form
  have hN24 : ds.length ≤ 24 := (okDefs_len2 hok).1
  have H60 := Lib.hid (okDefs_len2 hok).2
  have HSM := Lib.hid hsm.2
  have HMD := Lib.hid hM
  have HTS := Lib.hid (fun i (hi : i < ds.length) => hM.of.get hi)
  have HALL : Hid (∀ d ∈ ds, d.2.all okOp = true) := Lib.hid (fun d hd => by
    have := (okDf_shape ((okDefs_each hok).2 d hd)).1
    unfold shapeB at this
    simp only [Bool.and_eq_true] at this
    exact this.2.1)
  obtain ⟨N, hN⟩ : ∃ N, ds.length = N := ⟨_, rfl⟩
  have HN := Lib.hid hN
  rw [hN] at HD hN24 ⊢
  clear hr hok hsm hN hM
  go_enter Tryz.func9, Tryz.ntmps9
  go_wp2_with fail
  refine HD.out.mono ?_
  rintro e w2 ⟨rfl, hb2⟩
  have HB2 := Lib.hid hb2
  have HM0 := Lib.hid (mk_new w2)
  have HBM := Lib.hid (below_alloc1 w2 (.cells #[.slice none 0 0, .slice none 0 0, .slice none 0 0, .slice none 0 0] 64))
  clear hb2 HD
  go_wp2_with fail
  go_loopw [16] (fun vi wr => ∃ (i : Nat), vi = .int .i64 i ∧ i ≤ N ∧ Hid (∃ Gz, MkAt w2.heap.size w2.heap.size wr Gz ((codesL tail 0 (tss.take i)).map pendC) [] (openC 0 (codesL tail 0 (tss.take i))) (natI (startsL tail 0 (tss.take i)))) ∧ Hid (Below w2.heap.size w2 wr)) (fun vi _ => N - (intOf vi).toNat)
  case atStart => exact ⟨0, rfl, by omega, Lib.hid ⟨[], by simpa [codesL, startsL, openC, natI] using HM0.out⟩, HBM⟩
  case round =>
    clear HM0 HBM
    obtain ⟨i, rfl, hi, HK, HB⟩ := hrel
    by_cases hp : i < N
    · have hp' : i < ds.length := by rw [HN.out]; exact hp
      have hlo2 : w.heap.size ≤ w2.heap.size := HB2.out.size
      have hbw : Below w.heap.size w wr := HB2.out.trans (HB.out.mono hlo2)
      obtain ⟨a, B, m, bc, rfl, la, p0, p1, r0, em⟩ := (HR.out wr hbw).item hp'
      obtain ⟨a0, B0, m0, bc0, ea, la0, p00, p10, r00, em0⟩ := HRL.out.item hp'
      injection ea with ea
      subst ea
      have hsame : Value.slice B0 m0 bc0 = Value.slice B m bc := by
        have h1 := (hbw.cell (p := ⟨(a.add (i * 2)).block, (a.add (i * 2)).off + 1, none⟩) (by show (a.add (i * 2)).block < _; rw [addr_addb]; exact la0)).trans p10
        rw [h1] at p1
        exact Option.some.inj p1
      have hblk : ∀ a n c, Value.slice B m bc = .slice (some a) n c → 0 < n → a.block < w2.heap.size := fun a2 n2 c2 e hn2 => by
        have h9 := r00.blocks (by rw [hsame] at r00; injection e with e1 e2 e3; omega) a2 n2 c2 (hsame.trans e)
        omega
      obtain ⟨Gz, hk⟩ := HK.out
      have hlen := HTS.out i hp'
      obtain ⟨ts, hts, hgr⟩ := hlen
      have h60 := H60.out _ (List.getElem_mem hp')
      have hall := HALL.out _ (List.getElem_mem hp')
      have hsm := HSM.out _ (List.getElem_mem hp')
      obtain ⟨x, hx⟩ : ∃ x, ds[i] = x := ⟨_, rfl⟩
      rw [hx] at p0 r0 em hgr h60 hall hsm
      obtain ⟨nm, xs⟩ := x
      simp only at p0 r0 em hgr h60 hall hsm
      have htk := codes_take (tail := tail) hts
      have hcl : (codesL tail 0 (tss.take i)).length = widesL tail (tss.take i) := codesL_len tail _ (fun t ht => (HMD.out.each t (List.mem_of_mem_take ht)).1) 0
      have hcw : widesL tail (tss.take i) ≤ 1440 := by
        have h1 := HMD.out.wide tail
        have h2 : widesL tail tss = widesL tail (tss.take i) + widesL tail (tss.drop i) := by rw [← widesL_app, List.take_append_drop]
        omega
      have hbody : bodyM tail xs ⟨codesL tail 0 (tss.take i), []⟩ = some ⟨codesL tail 0 (tss.take (i + 1)), []⟩ := by
        rw [(body_grows tail hgr hall).1, bodyM_nil, htk.1]
        simp only [hcl]
      obtain ⟨Li, hLi⟩ : ∃ Li, codesL tail 0 (tss.take i) = Li := ⟨_, rfl⟩
      rw [hLi] at hk hcl hbody
      obtain ⟨Lj, hLj⟩ : ∃ Lj, codesL tail 0 (tss.take (i + 1)) = Lj := ⟨_, rfl⟩
      have HLj := Lib.hid hLj
      rw [hLj] at hbody
      have hsj : natI (startsL tail 0 (tss.take (i + 1))) = natI (startsL tail 0 (tss.take i)) ++ [((Li.map pendC).length : Int)] := by
        rw [htk.2]
        simp [natI, hcl]
      have HSJ := Lib.hid hsj
      obtain ⟨Si, hSi⟩ : ∃ Si, natI (startsL tail 0 (tss.take i)) = Si := ⟨_, rfl⟩
      rw [hSi] at hk HSJ
      have hsl : Si.length ≤ 24 := by
        rw [← hSi]
        have := HMD.out.few
        simp [natI, startsL_len]
        omega
      have h1 := hk.hold (.cells #[.string nm, .slice B m bc] 60)
      have hmd : (wr.heap.size, Obj.cells #[.string nm, .slice B m bc] 60) ∈ (wr.heap.size, Obj.cells #[.string nm, .slice B m bc] 60) :: Gz := by simp
      obtain ⟨vl, vs, ve, vc, ec, cc, h4, h5, h6⟩ := h1
      obtain ⟨A1, cap1, rfl⟩ := own_formM h4.rs
      obtain ⟨A0, cap0, rfl⟩ := own_formM h4.rl
      have q1 : (wr.alloc (.cells #[.string nm, .slice B m bc] 60)).cell? ⟨w2.heap.size, 1, none⟩ = some (.slice A1 Si.length cap1) := h4.box.cell 1
      have q0 : (wr.alloc (.cells #[.string nm, .slice B m bc] 60)).cell? ⟨w2.heap.size, 0, none⟩ = some (.slice A0 (Li.map pendC).length cap0) := h4.box.cell 0
      have lg := h4.box.lt
      have hLM : (Li.map pendC).length ≤ 1440 := by simp; omega
      obtain ⟨P, hP⟩ : ∃ P, (Li.map pendC).length = P := ⟨_, rfl⟩
      have hbN := below_alloc1 (wr.alloc (.cells #[.string nm, .slice B m bc] 60)) (nBox (P : Int))
      have H4 := Lib.hid (h4.below hbN)
      have src := src_int (wr.alloc (.cells #[.string nm, .slice B m bc] 60)) (P : Int)
      rw [World.size_alloc] at src
      have SRC := Lib.hid src
      clear src
      obtain ⟨M, hM⟩ : ∃ M, Si.length = M := ⟨_, rfl⟩
      have HMS := Lib.hid hM
      have RS : Hid (((wr.alloc (.cells #[.string nm, .slice B m bc] 60)).alloc (nBox (P : Int))).ownsRow w2.heap.size 3 1 (.slice A1 M cap1) M (Si.map lv)) := Lib.hid (by have h := H4.out.rs; rw [hM] at h; exact h)
      rw [hP] at q0 hLM H4 HSJ
      rw [hM] at q1 hsl H4
      have HBN : Hid (Below w2.heap.size w2 ((wr.alloc (.cells #[.string nm, .slice B m bc] 60)).alloc (nBox (P : Int)))) := Lib.hid ((HB.out.alloc HB.out.size _).alloc (by rw [World.size_alloc]; have := HB.out.size; omega) _)
      have HBR : Hid (Below w2.heap.size wr ((wr.alloc (.cells #[.string nm, .slice B m bc] 60)).alloc (nBox (P : Int)))) := Lib.hid (((Below.refl _ wr).alloc HB.out.size _).alloc (by rw [World.size_alloc]; have := HB.out.size; omega) _)
      have HRUN := Lib.hid (fun Fz W (hW : MkAt w2.heap.size w2.heap.size W Fz (Li.map pendC) [] (openC 0 Li) (Si ++ [(P : Int)])) (hr : RdR W (.slice B m bc) xs) => body_run tail xs h60 hsm.2.2 hall ⟨Li, []⟩ ⟨Lj, []⟩ (fun a ha => by simp at ha) (by simp only; omega) (by simp) hbody (.slice B m bc) W hr hblk hW)
      have H56 : Hid (Both (EndIs ((wr.heap.size, Obj.cells #[.string nm, .slice B m bc] 60) :: Gz) w2.heap.size) ec [] ∧ Both (CallIs ((wr.heap.size, Obj.cells #[.string nm, .slice B m bc] 60) :: Gz) w2.heap.size) cc (openC 0 Li)) := Lib.hid ⟨h5, h6⟩
      have HRR := Lib.hid r0
      have HBLK := Lib.hid hblk
      have HMDB := Lib.hid hmd
      have i1 : (0 : Int) ≤ (i : Int) := by omega
      have i2 : (i : Int) < (N : Int) := by omega
      obtain ⟨i0, hi0, hz0, hz1, hz2⟩ := info_parts infoL
      clear hk hgr h60 hall hsm hx htk hcl hcw hbody hLi hLj hsj hSi h4 h5 h6 hbN hP hM em em0 r0 r00 p00 p10 hsame hblk hmd la0 hbw hts hlo2
      go_wp2_with (at_builtin; refine wpList_append_src rfl _ _ 28 rfl w2.heap.size 3 i0 (.int .i64 0) 1 8 Tryz.underlying28 hi0 hz0 hz1 hz2 rfl (by decide) _ M _ rfl RS.out _ 1 [.int .i64 (P : Int)] rfl SRC.out (by simp [Value.oneCell']) (by unfold maxLen; omega) (by omega) HBN.out.size ?_; intro v9 w9 ho9 ha9; obtain ⟨D9, dc9, hv9⟩ := own_formM ho9; subst hv9; refine unstop ?_)
      refine Stop.go ?_
      have hrow : w9.ownsRow w2.heap.size 3 1 (.slice D9 (M + 1) dc9) (Si ++ [(P : Int)]).length ((Si ++ [(P : Int)]).map lv) := by
        rw [List.length_append, HMS.out, List.map_append]
        exact ho9
      have KEY := Lib.hid (H4.out.putS (s2 := Si ++ [(P : Int)]) hrow ha9.out)
      have hk2 : Blk w9 w2.heap.size 64 _ := H4.out.box.grown ha9.out.grown (fun e => box_neM H4.out.box H4.out.rs (by decide) e.symm)
      have f9 := hk2.frozen 1
      obtain ⟨u9, p9⟩ : ∃ u, w9.cell? ⟨w2.heap.size, 1, none⟩ = some u := ⟨_, hk2.cell 1⟩
      have lg9 := hk2.lt
      have hbk := KEY.out.1.cells2 HMDB.out
      have d1 : (w9.setCell ⟨w2.heap.size, 1, none⟩ (.slice D9 (M + 1) dc9)).cell? ⟨wr.heap.size, 1, none⟩ = some (.slice B m bc) := hbk.2
      have ld : wr.heap.size < w9.heap.size := by
        have := (Array.getElem?_eq_some_iff.1 (KEY.out.1.fz _ HMDB.out).1).1
        rwa [World.size_setCell] at this
      have HC := Lib.hid (HRUN.out _ _ ⟨_, _, _, _, _, _, KEY.out.1, H56.out.1, H56.out.2⟩ (HRR.out.low HBLK.out (HBR.out.trans KEY.out.2)))
      have HB9 := Lib.hid (HBN.out.trans KEY.out.2)
      clear ho9 ha9 hrow hk2 hbk KEY SRC RS q1 q0 H4 p0 p1 HRUN HRR HBN HBR H56
      go_wp2_with fail
      refine HC.out.mono ?_
      rintro e w10 ⟨rfl, ⟨Hz, hz, h20⟩, hb20⟩
      have HK2 : Hid (∃ Gz, MkAt w2.heap.size w2.heap.size w10 Gz ((codesL tail 0 (tss.take (i + 1))).map pendC) [] (openC 0 (codesL tail 0 (tss.take (i + 1)))) (natI (startsL tail 0 (tss.take (i + 1))))) := Lib.hid (by rw [HLj.out, HSJ.out]; exact ⟨Hz, h20⟩)
      have HB10 := Lib.hid (HB9.out.trans hb20)
      clear hz h20 hb20 HC HB9 d1 f9 p9
      go_wp2_with fail
      go_roundw
      case rel => exact ⟨i + 1, by go_num, by omega, HK2, HB10⟩
      case measure => simp [intOf]; omega
    · obtain rfl : i = N := by omega
      obtain ⟨Gz, hk⟩ := HK.out
      have e0 : tss.take i = tss := List.take_of_length_le (by rw [HMD.out.of.len, HN.out]; omega)
      rw [e0] at hk
      have hcl : (codesL tail 0 tss).length = widesL tail tss := codesL_len tail _ (fun t ht => (HMD.out.each t ht).1) 0
      have hcw := HMD.out.wide tail
      have HFO := Lib.hid (fill_open (startI (startsL tail 0 tss)) (codesL tail 0 tss) [])
      have HLT : Hid (∀ p ∈ openC 0 (codesL tail 0 tss), p.1 < (codesL tail 0 tss).length ∧ p.2 < tss.length) := Lib.hid (fun p hp => by
        have h1 := openC_lt hp
        refine ⟨by omega, ?_⟩
        have h2 := codesL_ok ds.length tail tss (fun ts ht => ⟨(HMD.out.each ts ht).1, (HMD.out.each ts ht).2.2⟩) 0
        rw [HMD.out.of.len]
        exact open_ok h2 hp)
      have HV : Hid (codeV tail tss = (codesL tail 0 tss).map (resC (startI (startsL tail 0 tss))) ++ [(9, 0)]) := Lib.hid rfl
      have hstl : (natI (startsL tail 0 tss)).length = tss.length := by simp [natI, startsL_len]
      have HSK : Hid (∀ k (h : k < (natI (startsL tail 0 tss)).length), (natI (startsL tail 0 tss))[k] = startI (startsL tail 0 tss) k) := Lib.hid (fun k h => by
        have hk2 : k < (startsL tail 0 tss).length := by rw [startsL_len, ← hstl]; exact h
        simp [natI, startI, List.getElem?_eq_getElem hk2])
      have hfew := HMD.out.few
      obtain ⟨ff, hff⟩ : ∃ ff, startI (startsL tail 0 tss) = ff := ⟨_, rfl⟩
      rw [hff] at HFO HV HSK
      obtain ⟨L, hL⟩ : ∃ L, codesL tail 0 tss = L := ⟨_, rfl⟩
      rw [hL] at HFO HV HLT hk hcl
      obtain ⟨St, hSt⟩ : ∃ St, natI (startsL tail 0 tss) = St := ⟨_, rfl⟩
      rw [hSt] at hk hstl HSK
      have HST9 := Lib.hid hSt
      have HS9 := Lib.hid (mstep_any 9 0 (by simp; omega) hk)
      clear hk HK hff hL hSt e0
      go_wp2_with fail
      refine HS9.out.mono ?_
      rintro e w3 ⟨rfl, h3, hb3⟩
      obtain ⟨vl, vs, ve, vc, ec, cc, h4, h5, h6⟩ := h3
      have HB3 := Lib.hid (HB.out.trans hb3)
      clear hb3 HS9 HB
      obtain ⟨A1, cap1, rfl⟩ := own_formM h4.rc
      have q3 : w3.cell? ⟨w2.heap.size, 3, none⟩ = some (.slice A1 cc.length cap1) := h4.box.cell 3
      have lg := h4.box.lt
      obtain ⟨K, hK⟩ : ∃ K, cc.length = K := ⟨_, rfl⟩
      have hKl := h6.len
      have hKo := open_len 0 L
      rw [hK] at h4 q3
      obtain ⟨l0, hl0⟩ : ∃ l0, L.map pendC ++ [((9 : Int), (0 : Int))] = l0 := ⟨_, rfl⟩
      have hll0 : l0.length = L.length + 1 := by rw [← hl0]; simp
      rw [hl0] at h4
      have HMK := Lib.hid h4
      have HCL := Lib.hid h6
      have HKK : Hid (cc.length = K) := Lib.hid hK
      have hK2 : K ≤ 1441 := by omega
      have hL2 : L.length ≤ 1440 := by omega
      have HKO : Hid ((openC 0 L).length = K) := Lib.hid (by rw [← hK]; exact hKl.symm)
      have HSL : Hid (St.length = tss.length) := Lib.hid hstl
      have HEND : Hid ((openC 0 L).foldl (fill1 ff) l0 = codeV tail tss) := Lib.hid (by
        rw [HV.out, ← hl0, fill_suffix _ _ _ _ (fun p hp => by have := (HLT.out p hp).1; simpa using this)]
        have := HFO.out
        simp only [List.length_nil, List.nil_append] at this
        rw [this])
      clear h4 h5 h6 hK hKl hKo hl0 hcl hcw hstl HFO HV
      go_wp2_with fail
      go_loopw [10, 37] (fun vf vj wr2 => ∃ (j : Nat), vj = .int .i64 j ∧ j ≤ K ∧ Hid (Mk4 w2.heap.size w2.heap.size wr2 Gz vl vs ve (.slice A1 K cap1) (((openC 0 L).take j).foldl (fill1 ff) l0) St ec cc) ∧ Hid (Below w2.heap.size w2 wr2)) (fun _ vj _ => K - (intOf vj).toNat)
      case atStart => exact ⟨0, rfl, by omega, HMK, HB3⟩
      case round =>
        rename World => wr2
        clear q3 HMK HB3
        obtain ⟨j, rfl, hj, HM, HB4⟩ := hrel
        by_cases hpj : j < K
        · have hjo : j < (openC 0 L).length := by rw [HKO.out]; exact hpj
          obtain ⟨x, hx, bm, bk, ba, hbm, hbk, hba, rfl⟩ := HCL.out.get hjo
          have hpl := HLT.out _ (List.getElem_mem hjo)
          have htk2 : ((openC 0 L).take (j + 1)).foldl (fill1 ff) l0 = fill1 ff (((openC 0 L).take j).foldl (fill1 ff) l0) (openC 0 L)[j] := by
            rw [List.take_succ_eq_append_getElem hjo, List.foldl_append]
            rfl
          obtain ⟨ak, hak⟩ : ∃ ak, (openC 0 L)[j] = ak := ⟨_, rfl⟩
          rw [hak] at hbk hba hpl htk2
          obtain ⟨a9, k9⟩ := ak
          simp only at hbm hbk hba hpl
          have hfl : (((openC 0 L).take j).foldl (fill1 ff) l0).length = L.length + 1 := by rw [fill_len]; exact hll0
          have h9 := HM.out
          obtain ⟨lj, hlj⟩ : ∃ lj, ((openC 0 L).take j).foldl (fill1 ff) l0 = lj := ⟨_, rfl⟩
          rw [hlj] at hfl htk2 h9
          have hal : a9 < lj.length := by omega
          have hkl : k9 < St.length := by rw [HSL.out]; exact hpl.2
          have hnew : ((openC 0 L).take (j + 1)).foldl (fill1 ff) l0 = lj.set a9 (lj[a9].1, St[k9]) := by
            rw [htk2, HSK.out k9 hkl]
            simp [fill1, List.getElem?_eq_getElem hal]
          have HC9 := Lib.hid (startend4 hbm hbk hba hal hkl (by rw [HSL.out]; omega) (by omega) h9)
          obtain ⟨ln, hln⟩ : ∃ ln, lj.set a9 (lj[a9].1, St[k9]) = ln := ⟨_, rfl⟩
          rw [hln] at hnew HC9
          have HNEW := Lib.hid hnew
          have hrc := h9.rc
          rw [HKK.out] at hrc
          obtain ⟨q9, cap9, hq9, hc9, hq9l, -⟩ := own_posM hrc (by omega)
          injection hq9 with e1 e2 e3
          subst e1 e3
          have c0 : wr2.cell? ⟨q9, j, none⟩ = some (.func (.func 135) #[] #[.pointer (some ⟨bm, 0, none⟩), .pointer (some ⟨bk, 0, none⟩), .pointer (some ⟨ba, 0, none⟩)]) := by
            rw [hrc.cellAt j (by omega)]
            exact hx
          have j1 : (0 : Int) ≤ (j : Int) := by omega
          have j2 : (j : Int) < (K : Int) := by omega
          clear hln hx hbm hbk hba hpl htk2 hak hfl h9 hlj hal hkl hnew hrc hjo hq9l
          go_wp2_with fail
          refine HC9.out.mono ?_
          rintro e w5 ⟨rfl, h10, hb10⟩
          have HM5 : Hid (Mk4 w2.heap.size w2.heap.size w5 Gz vl vs ve (.slice (some ⟨q9, 0, none⟩) K cap1) (((openC 0 L).take (j + 1)).foldl (fill1 ff) l0) St ec cc) := Lib.hid (by rw [HNEW.out]; exact h10)
          have HB5 := Lib.hid (HB4.out.trans hb10)
          clear h10 hb10 HC9 c0 HM HB4 HNEW
          go_wp2_with fail
          go_roundw
          case rel => exact ⟨j + 1, by go_num, by omega, HM5, HB5⟩
          case measure => simp [intOf]; omega
        · obtain rfl : j = K := by omega
          have hfin : (openC 0 L).take j = openC 0 L := List.take_of_length_le (by rw [HKO.out]; omega)
          have h9 := HM.out
          rw [hfin, HEND.out] at h9
          have HFIN := Lib.hid (fun n => h9.below (below_drewN (Below.refl wr2.heap.size wr2) n))
          have HLO := Lib.hid HB2.out.size
          have HBF := Lib.hid (fun n => below_drewN (HB2.out.trans (HB4.out.mono HB2.out.size)) n)
          have r0 : wr2.cell? ⟨w2.heap.size, 0, none⟩ = some vl := h9.box.cell 0
          have r1 : wr2.cell? ⟨w2.heap.size, 1, none⟩ = some vs := h9.box.cell 1
          have lg2 := h9.box.lt
          obtain ⟨B1, bc1, rfl⟩ := own_formM h9.rl
          obtain ⟨B2, bc2, rfl⟩ := own_formM h9.rs
          clear h9 HM HB4 hfin
          go_wp2_with fail
          go_quiet (fail)
          go_wp2_with fail
          go_ret2
          refine ⟨_, _, rfl, (HFIN.out _).rl.mono HLO.out, ?_, HBF.out _⟩
          rw [HST9.out]
          exact (HFIN.out _).rs.mono HLO.out
end Go.Proofs.YtofikgjoiidhmaaGreatDoor

namespace Go.Proofs.YtofikgjoiidhmaaGreatDoor
open Go.RowKit Go

/-- Another body for the first definition. -/
theorem DefsAt.setBody {g : Nat} {w wr : World} {q c : Nat} {u : Value} {ds : List Df} {xs : List (Int × Int)} (h : DefsAt g w (.slice (some ⟨q, 0, none⟩) ds.length c) ds wr) (h0 : 0 < ds.length) (hu : wr.ownsRow w.heap.size 70 2 u xs.length (slv xs)) (hx : xs.length ≤ 700 ∧ RngO xs) :
    DefsAt g w (.slice (some ⟨q, 0, none⟩) ds.length c) (ds.set 0 (ds[0].1, xs)) (wr.setCell ⟨q, 1, none⟩ u) := by
  obtain ⟨ps, hps, hrow, hbod⟩ := h.ex
  have hp0 : 0 < ps.length := by omega
  have hq := World.ownsRow.lt hrow q rfl
  have s1 := hrow.stored 1 u
  have e1 : (dfv ps).set 1 u = dfv (ps.set 0 (ps[0].1, u)) := dfv_set1 hp0 u
  have hs := s1.1
  rw [e1] at hs
  have hoth : ∀ k, k ≠ q → (wr.setCell ⟨q, 1, none⟩ u).heap[k]? = wr.heap[k]? := fun k hk => Below.heap_setCell wr _ _ k hk
  have key : ∀ {n : Nat} {z : Value} {ys : List Value}, wr.ownsRow w.heap.size 70 2 z n ys → (wr.setCell ⟨q, 1, none⟩ u).ownsRow w.heap.size 70 2 z n ys := fun ho => row_same ho (fun k hk => hoth k (fun e => types_ne hrow ho (by decide) q rfl (by rw [← e]; exact hk)))
  have hg : wr.grownBy (wr.setCell ⟨q, 1, none⟩ u) (some q) := ⟨rfl, rfl, rfl, by rw [World.size_setCell]; exact Nat.le_refl _, fun k _ hk => hoth k (fun e => hk (by rw [e]))⟩
  refine ⟨⟨ps.set 0 (ps[0].1, u), by simp [hps], by rw [List.length_set]; exact hs, fun i hi hi2 => ?_⟩, fun d hd => ?_, h.cur.grown hg (fun k hk => by injection hk with hk; have := h.glt; omega), only_app h.only hg (fun k hk => by injection hk with hk; omega), h.glt⟩
  · have hi' : i < ds.length := by simpa using hi
    have hi2' : i < ps.length := by omega
    by_cases hz : i = 0
    · subst hz
      simp only [List.getElem_set_self]
      exact ⟨(hbod 0 h0 hp0).1, key hu⟩
    · simp only [List.getElem_set_ne (show 0 ≠ i from fun e => hz e.symm)]
      exact ⟨(hbod i hi' hi2').1, key (hbod i hi' hi2').2⟩
  · rcases List.mem_or_eq_of_mem_set hd with h1 | h1
    · exact h.sm d h1
    · rw [h1]
      exact ⟨(h.sm ds[0] (List.getElem_mem h0)).1, hx⟩
theorem DefsAt.rdc {g : Nat} {w wr : World} {v : Value} {ds : List Df} (h : DefsAt g w v ds wr) : RdDc wr v ds := by
  obtain ⟨ps, hl, h1, h2⟩ := h.ex
  obtain ⟨A, cap, rfl⟩ := own_formS h1
  refine ⟨A, cap, rfl, fun i hi => ?_⟩
  obtain ⟨q, cp, e, hc, hq, -⟩ := own_posM h1 (by omega)
  injection e with e1 e2 e3
  subst e1 e3
  have hip : i < ps.length := by omega
  refine ⟨⟨q, 0, none⟩, ps[i].2, rfl, hq, ?_, ?_, ?_⟩
  · have h3 := h1.cellAt (i * 2) (by omega)
    rw [dfv_get0 hip] at h3
    rw [addr_lit, Nat.zero_add, h3, (h2 i hi hip).1]
  · have h3 := h1.cellAt (i * 2 + 1) (by omega)
    rw [dfv_get1 hip] at h3
    rw [addr_lit, Nat.zero_add, addr_lit, h3]
  · have ho := (h2 i hi hip).2
    refine ⟨RdS.of_own ho (by have := (h.sm _ (List.getElem_mem hi)).2.1; omega), ?_⟩
    rcases ho.2 with ⟨e, h0⟩ | ⟨g, cap, cur, e, hb, hg, hn, -⟩
    · exact ⟨none, 0, by rw [e, h0], by omega⟩
    · exact ⟨_, cap, e, hn⟩
/-- Definitions that are drawn, and a yes or no. -/
def DrewCode (w : World) (e : Ending) (w' : World) : Prop := ∃ v ds t, e = .returned (.tuple #[v, .bool t]) ∧ RdDc w' v ds ∧ SmD ds ∧ Below w.heap.size w w'
theorem DefsAt.small {g : Nat} {w wr : World} {v : Value} {ds : List Df} (h : DefsAt g w v ds wr) (hl : ds.length ≤ 4) : SmD ds := ⟨by omega, fun d hd => by
  obtain ⟨h1, h2, h3⟩ := h.sm d hd
  exact ⟨by omega, by omega, h3⟩⟩
set_option maxRecDepth 100000 in
set_option maxHeartbeats 4000000 in
theorem drawcode_any (A : Option Addr) (len cap : Nat) (w : World) (hcode : CodeOk w w.heap.size A len) : Calls Tryz.prog 8 #[.slice A len cap] w (DrewCode w) := by
  have HN := Lib.hid (new_any A len cap w hcode)
  clear hcode
  go_enter Tryz.func8, Tryz.ntmps8
  go_wp2_with fail
  refine HN.out.mono ?_
  rintro e w1 ⟨g, rfl, hg1, hc1, hb1⟩
  have HM := Lib.hid (make_any g w1 hc1)
  have HG := Lib.hid hg1
  have B1 := Lib.hid hb1
  clear hg1 hc1 hb1 HN
  go_wp2_with fail
  refine HM.out.mono ?_
  rintro e w2 ⟨v, ds, rfl, hd2, hl1, hl4⟩
  obtain ⟨q, c, rfl, -, -, -⟩ := (let ⟨_, _, hrow, _⟩ := hd2.ex; own_posM hrow hl1)
  have HO := Lib.hid (once_any g 8 (by omega) w2 hd2.cur)
  have D2 := Lib.hid hd2
  clear hd2 HM
  go_wp2_with fail
  refine HO.out.mono ?_
  rintro e w3 ⟨b, rfl, hc3, hg3⟩
  have D3 := Lib.hid (D2.out.drawn hc3 hg3)
  clear hc3 hg3 HO D2
  cases b with
  | false =>
    have HO := Lib.hid (once_any g 2 (by omega) w3 D3.out.cur)
    go_wp2_with fail
    refine HO.out.mono ?_
    rintro e w4 ⟨t, rfl, hc4, hg4⟩
    have D4 := Lib.hid (D3.out.drawn hc4 hg4)
    clear hc4 hg4 HO D3
    go_wp2_with fail
    go_ret2
    exact ⟨_, ds, t, rfl, D4.out.rdc, D4.out.small hl4, B1.out.trans (below_of_only D4.out.only B1.out.size HG.out)⟩
  | true =>
    have HA := Lib.hid (any_any g w3 D3.out.cur)
    go_wp2_with fail
    refine HA.out.mono ?_
    rintro e w4 ⟨u, xs, rfl, h4⟩
    obtain ⟨E, ec, rfl⟩ := own_formS h4.row
    have D4 := Lib.hid (D3.out.drawn h4.cur h4.only)
    have U4 := Lib.hid (h4.row.mono D3.out.only.size)
    have HX : Hid (xs.length ≤ 700 ∧ RngO xs) := Lib.hid ⟨h4.len, h4.rng⟩
    obtain ⟨ps, hps, hrow, -⟩ := D4.out.ex
    obtain ⟨u1, d1⟩ : ∃ u, w4.cell? ⟨q, 1, none⟩ = some u := ⟨_, (hrow.cellAt 1 (by omega)).trans (dfv_get1 (i := 0) (by omega))⟩
    have f1 := hrow.frozenAt 1
    have i2 : (0 : Int) < (ds.length : Int) := by omega
    have i3 : 0 < ds.length := by omega
    have D5 := Lib.hid (D4.out.setBody i3 U4.out HX.out)
    have HDL : Hid ((ds.set 0 (ds[0].1, xs)).length ≤ 4) := Lib.hid (by rw [List.length_set]; exact hl4)
    have HO := Lib.hid (once_any g 2 (by omega) _ D5.out.cur)
    clear h4 HA hps hrow D3 D4 U4 HX
    go_wp2_with fail
    refine HO.out.mono ?_
    rintro e w6 ⟨t, rfl, hc6, hg6⟩
    have D6 := Lib.hid (D5.out.drawn hc6 hg6)
    clear hc6 hg6 HO D5
    go_wp2_with fail
    go_ret2
    exact ⟨_, ds.set 0 (ds[0].1, xs), t, rfl, D6.out.rdc, D6.out.small HDL.out, B1.out.trans (below_of_only D6.out.only B1.out.size HG.out)⟩
end Go.Proofs.YtofikgjoiidhmaaGreatDoor
