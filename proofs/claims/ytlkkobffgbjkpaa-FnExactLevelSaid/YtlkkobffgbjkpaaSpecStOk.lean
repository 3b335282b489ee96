/-
  spec.StOk answers whether a state is right.
-/
import Derived.Test.YtlkkobffgbjkpaaStOk
import Derived.Test.YtlkkobffgbjkpaaIn
import Derived.IntWalk
namespace Go.Proofs.Ytlkkobffgbjkpaa
open Go.RowKit Go

set_option maxRecDepth 100000 in
set_option maxHeartbeats 8000000 in
theorem sstok_0 (d r m c v o i : Value) (S : S8) (w : World) (hr : RdSt w d r m c v o i S) (t0 : ¬ S.data.length ≤ 16) :
    Calls Try.prog 68 #[.agg #[d, r, .int .i32 S.a, m, c, v, o, i, .int .i64 S.fault, .int .i64 S.fuel]] w fun e w' => e = .returned (.bool false) ∧ Below w.heap.size w w' := by
  have hform := hr.form
  obtain ⟨⟨A0, a0, rfl⟩, ⟨A1, a1, rfl⟩, ⟨A2, a2, rfl⟩, ⟨A3, a3, rfl⟩, ⟨A4, a4, rfl⟩, ⟨A5, a5, rfl⟩, ⟨A6, a6, rfl⟩⟩ := hform
  have g0 : (16 : Int) < (S.data.length : Int) := by omega
  have g0_ : decide ((16 : Int) < (S.data.length : Int)) = true := by simp; omega
  clear hr t0
  go_enter Try.func68, Try.ntmps68
  go_wp2
  go_ret
  exact ⟨rfl, below_alloc w _⟩
set_option maxRecDepth 100000 in
set_option maxHeartbeats 8000000 in
theorem sstok_1 (d r m c v o i : Value) (S : S8) (w : World) (hr : RdSt w d r m c v o i S) (t0 : S.data.length ≤ 16) (t1 : ¬ S.ret.length ≤ 24) :
    Calls Try.prog 68 #[.agg #[d, r, .int .i32 S.a, m, c, v, o, i, .int .i64 S.fault, .int .i64 S.fuel]] w fun e w' => e = .returned (.bool false) ∧ Below w.heap.size w w' := by
  have hform := hr.form
  obtain ⟨⟨A0, a0, rfl⟩, ⟨A1, a1, rfl⟩, ⟨A2, a2, rfl⟩, ⟨A3, a3, rfl⟩, ⟨A4, a4, rfl⟩, ⟨A5, a5, rfl⟩, ⟨A6, a6, rfl⟩⟩ := hform
  have g0 : ¬ (16 : Int) < (S.data.length : Int) := by omega
  have g0_ : decide ((16 : Int) < (S.data.length : Int)) = false := by simp; omega
  have g1 : (24 : Int) < (S.ret.length : Int) := by omega
  have g1_ : decide ((24 : Int) < (S.ret.length : Int)) = true := by simp; omega
  clear hr t0 t1
  go_enter Try.func68, Try.ntmps68
  go_wp2
  go_ret
  exact ⟨rfl, below_alloc w _⟩
set_option maxRecDepth 100000 in
set_option maxHeartbeats 8000000 in
theorem sstok_2 (d r m c v o i : Value) (S : S8) (w : World) (hr : RdSt w d r m c v o i S) (t0 : S.data.length ≤ 16) (t1 : S.ret.length ≤ 24) (t2 : ¬ S.mem.length = 32) :
    Calls Try.prog 68 #[.agg #[d, r, .int .i32 S.a, m, c, v, o, i, .int .i64 S.fault, .int .i64 S.fuel]] w fun e w' => e = .returned (.bool false) ∧ Below w.heap.size w w' := by
  have hform := hr.form
  obtain ⟨⟨A0, a0, rfl⟩, ⟨A1, a1, rfl⟩, ⟨A2, a2, rfl⟩, ⟨A3, a3, rfl⟩, ⟨A4, a4, rfl⟩, ⟨A5, a5, rfl⟩, ⟨A6, a6, rfl⟩⟩ := hform
  have g0 : ¬ (16 : Int) < (S.data.length : Int) := by omega
  have g0_ : decide ((16 : Int) < (S.data.length : Int)) = false := by simp; omega
  have g1 : ¬ (24 : Int) < (S.ret.length : Int) := by omega
  have g1_ : decide ((24 : Int) < (S.ret.length : Int)) = false := by simp; omega
  have g2 : ((S.mem.length : Int) != 32) = true := by simp; omega
  clear hr t0 t1 t2
  go_enter Try.func68, Try.ntmps68
  go_wp2
  go_ret
  exact ⟨rfl, below_alloc w _⟩
set_option maxRecDepth 100000 in
set_option maxHeartbeats 8000000 in
theorem sstok_3 (d r m c v o i : Value) (S : S8) (w : World) (hr : RdSt w d r m c v o i S) (t0 : S.data.length ≤ 16) (t1 : S.ret.length ≤ 24) (t2 : S.mem.length = 32) (t3 : ¬ S.vars.length ≤ 20) :
    Calls Try.prog 68 #[.agg #[d, r, .int .i32 S.a, m, c, v, o, i, .int .i64 S.fault, .int .i64 S.fuel]] w fun e w' => e = .returned (.bool false) ∧ Below w.heap.size w w' := by
  have hform := hr.form
  obtain ⟨⟨A0, a0, rfl⟩, ⟨A1, a1, rfl⟩, ⟨A2, a2, rfl⟩, ⟨A3, a3, rfl⟩, ⟨A4, a4, rfl⟩, ⟨A5, a5, rfl⟩, ⟨A6, a6, rfl⟩⟩ := hform
  have g0 : ¬ (16 : Int) < (S.data.length : Int) := by omega
  have g0_ : decide ((16 : Int) < (S.data.length : Int)) = false := by simp; omega
  have g1 : ¬ (24 : Int) < (S.ret.length : Int) := by omega
  have g1_ : decide ((24 : Int) < (S.ret.length : Int)) = false := by simp; omega
  have g2 : ((S.mem.length : Int) != 32) = false := by simp; omega
  have g3 : (20 : Int) < (S.vars.length : Int) := by omega
  have g3_ : decide ((20 : Int) < (S.vars.length : Int)) = true := by simp; omega
  clear hr t0 t1 t2 t3
  go_enter Try.func68, Try.ntmps68
  go_wp2
  go_ret
  exact ⟨rfl, below_alloc w _⟩
set_option maxRecDepth 100000 in
set_option maxHeartbeats 8000000 in
theorem sstok_4 (d r m c v o i : Value) (S : S8) (w : World) (hr : RdSt w d r m c v o i S) (t0 : S.data.length ≤ 16) (t1 : S.ret.length ≤ 24) (t2 : S.mem.length = 32) (t3 : S.vars.length ≤ 20) (t4 : ¬ S.out.length ≤ 400) :
    Calls Try.prog 68 #[.agg #[d, r, .int .i32 S.a, m, c, v, o, i, .int .i64 S.fault, .int .i64 S.fuel]] w fun e w' => e = .returned (.bool false) ∧ Below w.heap.size w w' := by
  have hform := hr.form
  obtain ⟨⟨A0, a0, rfl⟩, ⟨A1, a1, rfl⟩, ⟨A2, a2, rfl⟩, ⟨A3, a3, rfl⟩, ⟨A4, a4, rfl⟩, ⟨A5, a5, rfl⟩, ⟨A6, a6, rfl⟩⟩ := hform
  have g0 : ¬ (16 : Int) < (S.data.length : Int) := by omega
  have g0_ : decide ((16 : Int) < (S.data.length : Int)) = false := by simp; omega
  have g1 : ¬ (24 : Int) < (S.ret.length : Int) := by omega
  have g1_ : decide ((24 : Int) < (S.ret.length : Int)) = false := by simp; omega
  have g2 : ((S.mem.length : Int) != 32) = false := by simp; omega
  have g3 : ¬ (20 : Int) < (S.vars.length : Int) := by omega
  have g3_ : decide ((20 : Int) < (S.vars.length : Int)) = false := by simp; omega
  have g4 : (400 : Int) < (S.out.length : Int) := by omega
  have g4_ : decide ((400 : Int) < (S.out.length : Int)) = true := by simp; omega
  clear hr t0 t1 t2 t3 t4
  go_enter Try.func68, Try.ntmps68
  go_wp2
  go_ret
  exact ⟨rfl, below_alloc w _⟩
set_option maxRecDepth 100000 in
set_option maxHeartbeats 8000000 in
theorem sstok_5 (d r m c v o i : Value) (S : S8) (w : World) (hr : RdSt w d r m c v o i S) (t0 : S.data.length ≤ 16) (t1 : S.ret.length ≤ 24) (t2 : S.mem.length = 32) (t3 : S.vars.length ≤ 20) (t4 : S.out.length ≤ 400) (t5 : ¬ S.inp.length ≤ 100) :
    Calls Try.prog 68 #[.agg #[d, r, .int .i32 S.a, m, c, v, o, i, .int .i64 S.fault, .int .i64 S.fuel]] w fun e w' => e = .returned (.bool false) ∧ Below w.heap.size w w' := by
  have hform := hr.form
  obtain ⟨⟨A0, a0, rfl⟩, ⟨A1, a1, rfl⟩, ⟨A2, a2, rfl⟩, ⟨A3, a3, rfl⟩, ⟨A4, a4, rfl⟩, ⟨A5, a5, rfl⟩, ⟨A6, a6, rfl⟩⟩ := hform
  have g0 : ¬ (16 : Int) < (S.data.length : Int) := by omega
  have g0_ : decide ((16 : Int) < (S.data.length : Int)) = false := by simp; omega
  have g1 : ¬ (24 : Int) < (S.ret.length : Int) := by omega
  have g1_ : decide ((24 : Int) < (S.ret.length : Int)) = false := by simp; omega
  have g2 : ((S.mem.length : Int) != 32) = false := by simp; omega
  have g3 : ¬ (20 : Int) < (S.vars.length : Int) := by omega
  have g3_ : decide ((20 : Int) < (S.vars.length : Int)) = false := by simp; omega
  have g4 : ¬ (400 : Int) < (S.out.length : Int) := by omega
  have g4_ : decide ((400 : Int) < (S.out.length : Int)) = false := by simp; omega
  have g5 : (100 : Int) < (S.inp.length : Int) := by omega
  have g5_ : decide ((100 : Int) < (S.inp.length : Int)) = true := by simp; omega
  clear hr t0 t1 t2 t3 t4 t5
  go_enter Try.func68, Try.ntmps68
  go_wp2
  go_ret
  exact ⟨rfl, below_alloc w _⟩
set_option maxRecDepth 100000 in
set_option maxHeartbeats 8000000 in
theorem sstok_l (d r m c v o i : Value) (S : S8) (w : World) (hr : RdSt w d r m c v o i S) (t0 : S.data.length ≤ 16) (t1 : S.ret.length ≤ 24) (t2 : S.mem.length = 32) (t3 : S.vars.length ≤ 20) (t4 : S.out.length ≤ 400) (t5 : S.inp.length ≤ 100) :
    Calls Try.prog 68 #[.agg #[d, r, .int .i32 S.a, m, c, v, o, i, .int .i64 S.fault, .int .i64 S.fuel]] w fun e w' => e = .returned (.bool (ok8 S)) ∧ Below w.heap.size w w' := by
  have hform := hr.form
  obtain ⟨⟨A0, a0, rfl⟩, ⟨A1, a1, rfl⟩, ⟨A2, a2, rfl⟩, ⟨A3, a3, rfl⟩, ⟨A4, a4, rfl⟩, ⟨A5, a5, rfl⟩, ⟨A6, a6, rfl⟩⟩ := hform
  have g0 : ¬ (16 : Int) < (S.data.length : Int) := by omega
  have g0_ : decide ((16 : Int) < (S.data.length : Int)) = false := by simp; omega
  have g1 : ¬ (24 : Int) < (S.ret.length : Int) := by omega
  have g1_ : decide ((24 : Int) < (S.ret.length : Int)) = false := by simp; omega
  have g2 : ((S.mem.length : Int) != 32) = false := by simp; omega
  have g3 : ¬ (20 : Int) < (S.vars.length : Int) := by omega
  have g3_ : decide ((20 : Int) < (S.vars.length : Int)) = false := by simp; omega
  have g4 : ¬ (400 : Int) < (S.out.length : Int) := by omega
  have g4_ : decide ((400 : Int) < (S.out.length : Int)) = false := by simp; omega
  have g5 : ¬ (100 : Int) < (S.inp.length : Int) := by omega
  have g5_ : decide ((100 : Int) < (S.inp.length : Int)) = false := by simp; omega
  have hcl : S.cells.length ≤ 4611686018427387904 := by obtain ⟨_, _, _, h, _⟩ := hr.c; exact h
  have LEN : Hid (S.data.length ≤ 16 ∧ S.ret.length ≤ 24 ∧ S.mem.length = 32 ∧ S.vars.length ≤ 20 ∧ S.out.length ≤ 400 ∧ S.inp.length ≤ 100) := Lib.hid ⟨t0, t1, t2, t3, t4, t5⟩
  have hb0 := below_alloc w (.cells #[.slice A0 S.data.length a0, .slice A1 S.ret.length a1, .int .i32 S.a, .slice A2 S.mem.length a2, .slice A3 S.cells.length a3, .slice A4 S.vars.length a4, .slice A5 S.out.length a5, .slice A6 S.inp.length a6, .int .i64 S.fault, .int .i64 S.fuel] 59)
  have k0 := Blk.new w 59 #[.slice A0 S.data.length a0, .slice A1 S.ret.length a1, .int .i32 S.a, .slice A2 S.mem.length a2, .slice A3 S.cells.length a3, .slice A4 S.vars.length a4, .slice A5 S.out.length a5, .slice A6 S.inp.length a6, .int .i64 S.fault, .int .i64 S.fuel]
  have HRR := Lib.hid ((hr.below hb0).r)
  have HRV := Lib.hid ((hr.below hb0).v)
  obtain ⟨c0, c1, c2, c3, c4, c5, c6, c7, c8, c9⟩ := st_cells k0
  have HST := Lib.hid (fun W => spec_storeok A3 S.cells.length a3 hcl W)
  have HB0 := Lib.hid hb0
  have KB0 := Lib.hid k0
  obtain ⟨rs, hrs⟩ : ∃ rs, S.ret = rs := ⟨_, rfl⟩
  obtain ⟨vs, hvs⟩ : ∃ vs, S.vars = vs := ⟨_, rfl⟩
  obtain ⟨n3, hn3⟩ : ∃ n3, S.cells.length = n3 := ⟨_, rfl⟩
  have HRS := Lib.hid hrs
  have HVS := Lib.hid hvs
  have HN3 := Lib.hid hn3
  simp only [hrs, hvs, hn3] at HRR HRV c0 c1 c2 c3 c4 c5 c6 c7 c8 c9 HST HB0 KB0 hcl g0 g0_ g1 g1_ g2 g3 g3_ g4 g4_ g5 g5_ ⊢
  clear hr hb0 k0 t0 t1 t2 t3 t4 t5 hrs hvs hn3
  obtain ⟨W0, hW0⟩ : ∃ W0, w.alloc (.cells #[.slice A0 S.data.length a0, .slice A1 rs.length a1, .int .i32 S.a, .slice A2 S.mem.length a2, .slice A3 n3 a3, .slice A4 vs.length a4, .slice A5 S.out.length a5, .slice A6 S.inp.length a6, .int .i64 S.fault, .int .i64 S.fuel] 59) = W0 := ⟨_, rfl⟩
  have HW0 := Lib.hid hW0
  clear hW0
  go_enter Try.func68, Try.ntmps68
  go_wp2
  have hW0 := HW0.out
  rw [hW0] at HRR HRV c0 c1 c2 c3 c4 c5 c6 c7 c8 c9 HB0 KB0 ⊢
  clear hW0 HW0
  go_loop [3] (fun vi => ∃ i : Nat, vi = .int .i64 i ∧ i ≤ rs.length ∧ Hid (∀ j (h : j < rs.length), j < i → 0 ≤ (rs[j]).1 ∧ (rs[j]).1 ≤ 2)) (fun vi => rs.length - (intOf vi).toNat)
  case atStart => exact ⟨0, rfl, by omega, Lib.hid (fun j _ h => by omega)⟩
  case round =>
    obtain ⟨i, rfl, hi, HN⟩ := hrel
    by_cases hp : i < rs.length
    · obtain ⟨a, rfl, la, p0, p1⟩ := HRR.out.item hp
      have i1 : (0 : Int) ≤ (i : Int) := by omega
      have i2 : (i : Int) < (rs.length : Int) := by omega
      obtain ⟨y, hy⟩ : ∃ y, rs[i] = y := ⟨_, rfl⟩
      obtain ⟨k, z⟩ := y
      rw [hy] at p0 p1
      by_cases hk : 0 ≤ k ∧ k ≤ 2
      · have HIN := Lib.hid (fun W => in_any k 0 2 W)
        rw [inB_true hk.1 hk.2] at HIN
        have HN2 : Hid (∀ j (h : j < rs.length), j < i + 1 → 0 ≤ (rs[j]).1 ∧ (rs[j]).1 ≤ 2) := Lib.hid fun j hj h2 => by
          rcases Nat.lt_or_ge j i with h3 | h3
          · exact HN.out j hj h3
          · obtain rfl : j = i := by omega
            rw [hy]
            exact hk
        clear hy HN hk
        go_wp2_with fail
        refine (HIN.out _).mono ?_
        rintro e w' ⟨rfl, rfl⟩
        go_wp2_with fail
        go_round
        case rel => exact ⟨i + 1, by go_num, by omega, HN2⟩
        case measure => simp [intOf]; omega
      · have HIN := Lib.hid (fun W => in_any k 0 2 W)
        rw [inB_false hk] at HIN
        have HK : Hid (kindsB S.ret = false) := Lib.hid (by rw [HRS.out]; exact kindsB_no hp (by rw [hy]; exact hk))
        have HO : Hid (ok8 S = false) := Lib.hid (Bool.eq_false_iff.2 fun e => by have h := ((ok8_iff S).1 e).kinds; rw [HK.out] at h; cases h)
        clear hy HN hk HK
        go_wp2_with fail
        refine (HIN.out _).mono ?_
        rintro e w' ⟨rfl, rfl⟩
        go_wp2_with fail
        go_ret
        exact ⟨by rw [HO.out]; rfl, HB0.out⟩
    · have HK : Hid (kindsB S.ret = true) := Lib.hid (by rw [HRS.out]; exact decide_eq_true fun j hj => HN.out j hj (by omega))
      clear HN HRR
      go_wp2_with fail
      go_loopw [4] (fun vi wr => ∃ i d : Nat, vi = .int .i64 i ∧ i ≤ vs.length ∧ Hid (∀ j (h : j < vs.length), j < i → (0 ≤ vs[j] ∧ vs[j] < (n3 : Int)) ∧ vs[j] ∉ vs.take j) ∧ Hid (wr = W0.drewN d)) (fun vi _ => vs.length - (intOf vi).toNat)
      case atStart => exact ⟨0, 0, rfl, by omega, Lib.hid (fun j _ h => by omega), Lib.hid (by rw [World.drewN_zero])⟩
      case round =>
        obtain ⟨i, d, rfl, hi, HN, HW⟩ := hrel
        have q5 : wr.cell? ⟨w.heap.size, 5, none⟩ = some (.slice A4 vs.length a4) := by rw [HW.out]; exact c5
        have q4 : wr.cell? ⟨w.heap.size, 4, none⟩ = some (.slice A3 n3 a3) := by rw [HW.out]; exact c4
        by_cases hp : i < vs.length
        · obtain ⟨a, rfl, la, p0'⟩ := HRV.out.at hp
          have p0 : wr.cell? (a.add i) = some (.int .i64 vs[i]) := by rw [HW.out]; exact p0'
          clear p0'
          have i1 : (0 : Int) ≤ (i : Int) := by omega
          have i2 : (i : Int) < (vs.length : Int) := by omega
          obtain ⟨x, hx⟩ : ∃ x, vs[i] = x := ⟨_, rfl⟩
          have HX := Lib.hid hx
          rw [hx] at p0
          clear hx
          by_cases hk : 0 ≤ x ∧ x ≤ (n3 : Int) - 1
          · have HIN := Lib.hid (fun W => in_any x 0 ((n3 : Int) - 1) W)
            rw [inB_true hk.1 hk.2] at HIN
            have HKK := Lib.hid hk
            have wz : IntKind.i64.wrap ((n3 : Int) - 1) = (n3 : Int) - 1 := IntWalk.i64_in _ (by omega)
            clear hk
            go_wp2_with fail
            go_quiet ((go_at_call 99; exact Calls.quiet_of_same ((HIN.out _).mono fun e w' h => ⟨h.1, h.2.symm⟩)))
            clear wz
            go_wp2_with fail
            generalize hwo : wr.drewN nq = wo
            have HWO : Hid (wo = W0.drewN (d + nq)) := Lib.hid (by rw [← hwo, HW.out, World.drewN_drewN])
            clear hwo q5 q4 p0
            go_loopw [5] (fun vk w2 => ∃ k e : Nat, vk = .int .i64 k ∧ k ≤ i ∧ Hid (∀ j (h : j < vs.length), j < k → vs[j] ≠ x) ∧ Hid (w2 = wo.drewN e)) (fun vk _ => i - (intOf vk).toNat)
            case atStart => exact ⟨0, 0, rfl, by omega, Lib.hid (fun j _ h => by omega), Lib.hid (by rw [World.drewN_zero])⟩
            case round =>
              obtain ⟨k, e, rfl, hk, HM, HW2⟩ := hrel
              by_cases hki : k < i
              · have q5 : wr.cell? ⟨w.heap.size, 5, none⟩ = some (.slice (some a) vs.length a4) := by rw [HW2.out, HWO.out]; exact c5
                obtain ⟨a', ha', la', pk'⟩ := HRV.out.at (i := k) (by omega)
                injection ha' with ha'
                subst ha'
                obtain ⟨a'', ha'', la'', pi'⟩ := HRV.out.at (i := i) hp
                injection ha'' with ha''
                subst ha''
                have pk : wr.cell? (a.add k) = some (.int .i64 (vs[k]'(by omega))) := by rw [HW2.out, HWO.out]; exact pk'
                have pi : wr.cell? (a.add i) = some (.int .i64 x) := by rw [HW2.out, HWO.out, ← HX.out]; exact pi'
                clear pk' pi' la' la''
                obtain ⟨y, hy⟩ : ∃ y, (vs[k]'(by omega)) = y := ⟨_, rfl⟩
                rw [hy] at pk
                have k1 : (0 : Int) ≤ (k : Int) := by omega
                have k2 : (k : Int) < (vs.length : Int) := by omega
                have k3 : (k : Int) < (i : Int) := by omega
                by_cases he : y = x
                · have he' : (y == x) = true := by simp [he]
                  have HK : Hid (varsB S.vars S.cells.length = false) := Lib.hid (by
                    rw [HVS.out, HN3.out]
                    refine varsB_no hp fun h => h.2 ?_
                    rw [HX.out, ← he, ← hy]
                    exact List.mem_take_iff_getElem.2 ⟨k, by omega, rfl⟩)
                  have HO : Hid (ok8 S = false) := Lib.hid (Bool.eq_false_iff.2 fun e => by have h := ((ok8_iff S).1 e).places; rw [HK.out] at h; cases h)
                  clear he hy
                  go_wp2_with fail
                  go_quiet (fail)
                  go_wp2_with fail
                  go_ret
                  exact ⟨by rw [HO.out]; rfl, by rw [HW2.out, HWO.out]; exact below_drewN (below_drewN (below_drewN HB0.out _) _) _⟩
                · have he' : (y == x) = false := by simpa using he
                  have HM2 : Hid (∀ j (h : j < vs.length), j < k + 1 → vs[j] ≠ x) := Lib.hid fun j hj h2 => by
                    rcases Nat.lt_or_ge j k with h3 | h3
                    · exact HM.out j hj h3
                    · obtain rfl : j = k := by omega
                      rw [hy]
                      exact he
                  clear he hy
                  go_wp2_with fail
                  go_quiet (fail)
                  go_wp2_with fail
                  go_roundw
                  case rel => exact ⟨k + 1, _, by go_num, by omega, HM2, Lib.hid (by rw [HW2.out, World.drewN_drewN])⟩
                  case measure => simp [intOf]; omega
              · obtain rfl : k = i := by omega
                have HN2 : Hid (∀ j (h : j < vs.length), j < k + 1 → (0 ≤ vs[j] ∧ vs[j] < (n3 : Int)) ∧ vs[j] ∉ vs.take j) := Lib.hid fun j hj h2 => by
                  rcases Nat.lt_or_ge j k with h3 | h3
                  · exact HN.out j hj h3
                  · obtain rfl : j = k := by omega
                    rw [HX.out]
                    refine ⟨⟨HKK.out.1, by have := HKK.out.2; omega⟩, fun hm => ?_⟩
                    obtain ⟨q, hq1, hq2⟩ := List.mem_take_iff_getElem.1 hm
                    exact HM.out q (by omega) (by omega) hq2
                go_wp2_with fail
                go_roundw
                case rel => exact ⟨k + 1, _, by go_num, by omega, HN2, Lib.hid (by rw [HW2.out, HWO.out, World.drewN_drewN])⟩
                case measure => simp [intOf]; omega
          · have HIN := Lib.hid (fun W => in_any x 0 ((n3 : Int) - 1) W)
            rw [inB_false hk] at HIN
            have HK : Hid (varsB S.vars S.cells.length = false) := Lib.hid (by rw [HVS.out, HN3.out]; exact varsB_no hp (by rw [HX.out]; exact fun h => hk ⟨h.1.1, by have := h.1.2; omega⟩))
            have HO : Hid (ok8 S = false) := Lib.hid (Bool.eq_false_iff.2 fun e => by have h := ((ok8_iff S).1 e).places; rw [HK.out] at h; cases h)
            have wz : IntKind.i64.wrap ((n3 : Int) - 1) = (n3 : Int) - 1 := IntWalk.i64_in _ (by omega)
            clear hk
            go_wp2_with fail
            go_quiet ((go_at_call 99; exact Calls.quiet_of_same ((HIN.out _).mono fun e w' h => ⟨h.1, h.2.symm⟩)))
            clear wz
            go_wp2_with fail
            go_ret
            exact ⟨by rw [HO.out]; rfl, by rw [HW.out]; exact below_drewN (below_drewN HB0.out _) _⟩
        · have HP : Hid (varsB S.vars S.cells.length = true) := Lib.hid (by rw [HVS.out, HN3.out]; exact decide_eq_true fun j hj => HN.out j hj (by omega))
          have KB : Hid (Blk wr w.heap.size 59 #[.slice A0 S.data.length a0, .slice A1 rs.length a1, .int .i32 S.a, .slice A2 S.mem.length a2, .slice A3 n3 a3, .slice A4 vs.length a4, .slice A5 S.out.length a5, .slice A6 S.inp.length a6, .int .i64 S.fault, .int .i64 S.fuel]) := Lib.hid (by rw [HW.out]; exact KB0.out)
          have hLEN := LEN.out
          have hB : Below w.heap.size w wr := by rw [HW.out]; exact below_drewN HB0.out _
          have HBR := Lib.hid hB
          clear HN HW hB HRV HB0
          by_cases t3 : storeB S.cells.length = true
          · rw [← HN3.out] at HST
            rw [t3] at HST
            by_cases t7 : 0 ≤ S.fault ∧ S.fault ≤ 13
            · have HIF := Lib.hid (fun W => in_any S.fault 0 13 W)
              rw [inB_true t7.1 t7.2] at HIF
              by_cases t9 : 0 ≤ S.fuel ∧ S.fuel ≤ 4000
              · have HIU := Lib.hid (fun W => in_any S.fuel 0 4000 W)
                rw [inB_true t9.1 t9.2] at HIU
                have HO : Hid (ok8 S = true) := Lib.hid ((ok8_iff S).2 ⟨hLEN.1, hLEN.2.1, hLEN.2.2.1, hLEN.2.2.2.1, hLEN.2.2.2.2.1, hLEN.2.2.2.2.2, HK.out, HP.out, t3, t7, t9⟩)
                clear t3 t7 t9 hLEN
                obtain ⟨e0, e1, e2, e3, e4, e5, e6, e7, e8, e9⟩ := st_cells KB.out
                go_wp2_with fail
                rw [HN3.out] at HST
                refine (HST.out _).mono ?_
                rintro e w5 ⟨rfl, hb5⟩
                have kb5 := KB.out.below hb5 KB.out.lt
                have hb6 := HBR.out.trans (hb5.mono HBR.out.size)
                have HB6 := Lib.hid hb6
                clear e0 e1 e2 e3 e4 e5 e6 e7 e8 e9
                obtain ⟨f0, f1, f2, f3, f4, f5, f6, f7, f8, f9⟩ := st_cells kb5
                clear hb5 kb5 hb6 KB HBR
                go_wp2_with fail
                refine (HIF.out _).mono ?_
                rintro e w6 ⟨rfl, rfl⟩
                go_wp2_with fail
                refine (HIU.out _).mono ?_
                rintro e w7 ⟨rfl, rfl⟩
                go_wp2_with fail
                go_ret
                exact ⟨by rw [HO.out]; rfl, HB6.out⟩
              · have HIU := Lib.hid (fun W => in_any S.fuel 0 4000 W)
                rw [inB_false t9] at HIU
                have HO : Hid (ok8 S = false) := Lib.hid (Bool.eq_false_iff.2 fun e => t9 ((ok8_iff S).1 e).fuel)
                clear t3 t7 t9 hLEN
                obtain ⟨e0, e1, e2, e3, e4, e5, e6, e7, e8, e9⟩ := st_cells KB.out
                go_wp2_with fail
                rw [HN3.out] at HST
                refine (HST.out _).mono ?_
                rintro e w5 ⟨rfl, hb5⟩
                have kb5 := KB.out.below hb5 KB.out.lt
                have hb6 := HBR.out.trans (hb5.mono HBR.out.size)
                have HB6 := Lib.hid hb6
                clear e0 e1 e2 e3 e4 e5 e6 e7 e8 e9
                obtain ⟨f0, f1, f2, f3, f4, f5, f6, f7, f8, f9⟩ := st_cells kb5
                clear hb5 kb5 hb6 KB HBR
                go_wp2_with fail
                refine (HIF.out _).mono ?_
                rintro e w6 ⟨rfl, rfl⟩
                go_wp2_with fail
                refine (HIU.out _).mono ?_
                rintro e w7 ⟨rfl, rfl⟩
                go_wp2_with fail
                go_ret
                exact ⟨by rw [HO.out]; rfl, HB6.out⟩
            · have HIF := Lib.hid (fun W => in_any S.fault 0 13 W)
              rw [inB_false t7] at HIF
              have HO : Hid (ok8 S = false) := Lib.hid (Bool.eq_false_iff.2 fun e => t7 ((ok8_iff S).1 e).fault)
              clear t3 t7 hLEN
              obtain ⟨e0, e1, e2, e3, e4, e5, e6, e7, e8, e9⟩ := st_cells KB.out
              go_wp2_with fail
              rw [HN3.out] at HST
              refine (HST.out _).mono ?_
              rintro e w5 ⟨rfl, hb5⟩
              have kb5 := KB.out.below hb5 KB.out.lt
              have hb6 := HBR.out.trans (hb5.mono HBR.out.size)
              have HB6 := Lib.hid hb6
              clear e0 e1 e2 e3 e4 e5 e6 e7 e8 e9
              obtain ⟨f0, f1, f2, f3, f4, f5, f6, f7, f8, f9⟩ := st_cells kb5
              clear hb5 kb5 hb6 KB HBR
              go_wp2_with fail
              refine (HIF.out _).mono ?_
              rintro e w6 ⟨rfl, rfl⟩
              go_wp2_with fail
              go_ret
              exact ⟨by rw [HO.out]; rfl, HB6.out⟩
          · rw [← HN3.out] at HST
            rw [show storeB S.cells.length = false by simpa using t3] at HST
            have HO : Hid (ok8 S = false) := Lib.hid (Bool.eq_false_iff.2 fun e => t3 ((ok8_iff S).1 e).store)
            clear t3 hLEN
            obtain ⟨e0, e1, e2, e3, e4, e5, e6, e7, e8, e9⟩ := st_cells KB.out
            go_wp2_with fail
            rw [HN3.out] at HST
            refine (HST.out _).mono ?_
            rintro e w5 ⟨rfl, hb5⟩
            have kb5 := KB.out.below hb5 KB.out.lt
            have hb6 := HBR.out.trans (hb5.mono HBR.out.size)
            have HB6 := Lib.hid hb6
            clear e0 e1 e2 e3 e4 e5 e6 e7 e8 e9
            obtain ⟨f0, f1, f2, f3, f4, f5, f6, f7, f8, f9⟩ := st_cells kb5
            clear hb5 kb5 hb6 KB HBR
            go_wp2_with fail
            go_ret
            exact ⟨by rw [HO.out]; rfl, HB6.out⟩
theorem spec_stok (d r m c v o i : Value) (S : S8) (w : World) (hr : RdSt w d r m c v o i S) :
    Calls Try.prog 68 #[.agg #[d, r, .int .i32 S.a, m, c, v, o, i, .int .i64 S.fault, .int .i64 S.fuel]] w fun e w' => e = .returned (.bool (ok8 S)) ∧ Below w.heap.size w w' := by
  by_cases t0 : S.data.length ≤ 16
  case neg =>
    rw [show ok8 S = false from Bool.eq_false_iff.2 fun e => t0 ((ok8_iff S).1 e).data]
    exact sstok_0 d r m c v o i S w hr t0
  by_cases t1 : S.ret.length ≤ 24
  case neg =>
    rw [show ok8 S = false from Bool.eq_false_iff.2 fun e => t1 ((ok8_iff S).1 e).ret]
    exact sstok_1 d r m c v o i S w hr t0 t1
  by_cases t2 : S.mem.length = 32
  case neg =>
    rw [show ok8 S = false from Bool.eq_false_iff.2 fun e => t2 ((ok8_iff S).1 e).mem]
    exact sstok_2 d r m c v o i S w hr t0 t1 t2
  by_cases t3 : S.vars.length ≤ 20
  case neg =>
    rw [show ok8 S = false from Bool.eq_false_iff.2 fun e => t3 ((ok8_iff S).1 e).vars]
    exact sstok_3 d r m c v o i S w hr t0 t1 t2 t3
  by_cases t4 : S.out.length ≤ 400
  case neg =>
    rw [show ok8 S = false from Bool.eq_false_iff.2 fun e => t4 ((ok8_iff S).1 e).out]
    exact sstok_4 d r m c v o i S w hr t0 t1 t2 t3 t4
  by_cases t5 : S.inp.length ≤ 100
  case neg =>
    rw [show ok8 S = false from Bool.eq_false_iff.2 fun e => t5 ((ok8_iff S).1 e).inp]
    exact sstok_5 d r m c v o i S w hr t0 t1 t2 t3 t4 t5
  exact sstok_l d r m c v o i S w hr t0 t1 t2 t3 t4 t5
end Go.Proofs.Ytlkkobffgbjkpaa
