/-
  laws.FnTrees answers true at all bytes.
-/
import Derived.Test.YtlkkobffgbjkpaaDrawTrees
import Derived.Test.YtlkkobffgbjkpaaFlatP
import Derived.Test.YtlkkobffgbjkpaaTreesI
import Derived.Test.YtlkkobffgbjkpaaLawShape
import Derived.Test.YtlkkobffgbjkpaaLawTree
import Derived.Laws.StructEq
namespace Go.Proofs.Ytlkkobffgbjkpaa
open Go.RowKit Go

theorem Grows.sh {xs ys : List (Int × Int)} {ts : List Tr} (h : Grows xs ts ys) : shL ts = true := by
  induction h with
  | stop xs h => rfl
  | leaf o r ys ts h g ih =>
    simp only [shL, Tr.sh, Bool.and_eq_true, decide_eq_true_eq]
    rw [if_neg (by omega)]
    exact ⟨⟨⟨h.2.2.1, h.2.2.2.2⟩, rfl⟩, ih⟩
  | nest o r r2 ys kids ts h gk g ih1 ih2 =>
    simp only [shL, Tr.sh, Bool.and_eq_true, decide_eq_true_eq]
    rw [if_pos h]
    exact ⟨⟨by omega, ih1⟩, ih2⟩
theorem flat_back {xs : List (Int × Int)} {ts : List Tr} (h : shapeB xs = true) (g : Grows xs ts []) : flat8 ts = xs := by
  have e := g.flat
  rw [List.append_nil] at e
  have h2 := shape_len h
  rw [e] at h2
  unfold flat8
  rw [if_pos ⟨g.sh, h2.1, h2.2⟩, e]
theorem flat8_shape (ts : List Tr) : shapeB (flat8 ts) = true := by
  unfold flat8
  split
  · rename_i h
    rw [shape_flat h.1, h.2.2]
    simp [h.2.1]
  · decide
theorem flat8_rng {ts : List Tr} (h : rgL ts) : RngO (flat8 ts) := by
  unfold flat8
  split
  · exact rg_flatL ts h
  · intro o ho; simp at ho
set_option maxHeartbeats 4000000 in
theorem sameops_same (a b : Value) (xs : List (Int × Int)) (w : World) (hl : xs.length ≤ 2000000) (ha : RdS w a xs) (hb : RdS w b xs) :
    Calls Try.prog 14 #[a, b] w fun e w' => e = .returned (.bool true) ∧ Below w.heap.size w w' := by
  obtain ⟨A, ca, rfl⟩ := ha.form
  obtain ⟨B, cb, rfl⟩ := hb.form
  have HA := Lib.hid (fun W (h : Below w.heap.size w W) => ha.below h)
  have HB := Lib.hid (fun W (h : Below w.heap.size w W) => hb.below h)
  clear ha hb
  have hl' : ((xs.length : Int) != (xs.length : Int)) = false := by simp
  go_enter Try.func14, Try.ntmps14
  go_wp2
  go_loopw [5] (fun vi wr => ∃ i : Nat, vi = .int .i64 i ∧ i ≤ xs.length ∧ Hid (Below w.heap.size w wr)) (fun vi _ => xs.length - (intOf vi).toNat)
  case atStart => exact ⟨0, rfl, by omega, Lib.hid (Below.refl _ _)⟩
  case round =>
    obtain ⟨i, rfl, hi, HW⟩ := hrel
    by_cases hp : i < xs.length
    · obtain ⟨a, rfl, la, p0, p1⟩ := (HA.out _ HW.out).item hp
      obtain ⟨b, rfl, lb, q0, q1⟩ := (HB.out _ HW.out).item hp
      obtain ⟨x, hx⟩ : ∃ x, xs[i] = x := ⟨_, rfl⟩
      obtain ⟨x1, x2⟩ := x
      rw [hx] at p0 p1 q0 q1
      have i1 : (0 : Int) ≤ (i : Int) := by omega
      have i2 : (i : Int) < (xs.length : Int) := by omega
      have hneq : ∀ W, (binOp .neq 75 (.agg #[.int .i64 x1, .int .i32 x2]) (.agg #[.int .i64 x1, .int .i32 x2])).run Try.prog W = .ok (.bool false) W := fun W => by rw [op_neq]; simp
      clear hx la lb
      go_wp2_with fail
      go_quiet (fail)
      go_wp2_with fail
      go_roundw
      case rel => exact ⟨i + 1, by go_num, by omega, by first | exact HW | exact Lib.hid HW.out.drew | exact Lib.hid (below_drewN HW.out _)⟩
      case measure => simp [intOf]; omega
    · go_wp2
      go_ret
      exact ⟨rfl, HW.out⟩
set_option maxRecDepth 100000 in
set_option maxHeartbeats 8000000 in
theorem law_FnTrees (A : Option Addr) (len cap : Nat) (w : World) (hcode : CodeOk w w.heap.size A len) :
    Calls Try.prog 3 #[.slice A len cap] w fun e w' => e = .returned (.bool true) ∧ Below w.heap.size w w' := by
  have HC := Lib.hid hcode
  clear hcode
  by_cases hbig : (1048576 : Int) < (len : Int)
  · have hb1 : decide ((1048576 : Int) < (len : Int)) = true := by simpa using hbig
    go_enter Try.func3, Try.ntmps3
    go_wp2_with (go_at_call 9; refine (big_any _ _ _ _).mono ?_; rintro e w' ⟨rfl, rfl⟩)
    go_ret
    exact ⟨rfl, Below.refl _ _⟩
  · have hb1 : decide ((1048576 : Int) < (len : Int)) = false := by simpa using hbig
    clear hbig
    go_enter Try.func3, Try.ntmps3
    go_wp2_with (go_at_call 9; refine (big_any _ _ _ _).mono ?_; rintro e w' ⟨rfl, rfl⟩)
    refine (drawtree_any A len cap w HC.out).mono ?_
    rintro e w1 ⟨u, xs, rfl, hl, hrg, hown, hb1⟩
    obtain ⟨U, uc, rfl, huc⟩ := row_cap hown
    obtain ⟨ts, hts⟩ := treesOf_any xs
    have hr := RdS.of_own hown (by omega)
    have B1 := Lib.hid hb1
    have HR := Lib.hid (fun W (h : Below w1.heap.size w1 W) => hr.below h)
    have HT := Lib.hid (impl_treeof xs hrg ts hts U uc w1 huc hr)
    have HSI := Lib.hid (fun u W (h : RdS W u xs) => impl_shape xs hrg u W h)
    have HSS := Lib.hid (fun u W (h : RdS W u xs) => spec_shape xs hrg u W h)
    have HF := Lib.hid (fun u W (h : RdT W u ts) => impl_flatof ts (by have := hts.size; omega) (hts.rng hrg) u W h)
    have HSO := Lib.hid (fun a b W (h : RdS W a xs) (h2 : RdS W b xs) => sameops_same a b xs W (by omega) h h2)
    have HTS := Lib.hid hts
    obtain ⟨b, hsb⟩ : ∃ b, shapeB xs = b := ⟨_, rfl⟩
    have HSB := Lib.hid hsb
    rw [hsb] at HSI HSS
    obtain ⟨N, hN⟩ : ∃ N, xs.length = N := ⟨_, rfl⟩
    have HN := Lib.hid hN
    have hN7 : N ≤ 700 := by omega
    rw [hN] at HT HR ⊢
    clear hown hts hr hb1 hrg hl huc hN hsb
    go_wp2_with fail
    refine HT.out.mono ?_
    rintro e w2 ⟨u2, S2, rfl, ho2, hb2⟩
    have O2 := Lib.hid ho2
    have C2 := Lib.hid hb2
    clear ho2 hb2 HT
    go_wp2_with fail
    refine (HSI.out _ w2 (HR.out _ C2.out)).mono ?_
    rintro e w3 ⟨rfl, hb3⟩
    have O3 := Lib.hid (O2.out.stay hb3)
    have C3 := Lib.hid (C2.out.trans (hb3.mono C2.out.size))
    clear hb3 O2 C2 HSI
    go_wp2_with fail
    refine (HSS.out _ w3 (HR.out _ C3.out)).mono ?_
    rintro e w4 ⟨rfl, hb4⟩
    have O4 := Lib.hid (O3.out.stay hb4)
    have C4 := Lib.hid (C3.out.trans (hb4.mono C3.out.size))
    have hbb : (b != b) = false := by simp
    clear hb4 O3 C3
    have KEY : Hid (∀ W, Below w1.heap.size w1 W → CodeOk W W.heap.size A len) := Lib.hid (fun W h => (HC.out.below (B1.out.trans (h.mono B1.out.size))).more (by have := B1.out.size; have := h.size; omega))
    go_wp2_with fail
    refine (HSS.out _ w4 (HR.out _ C4.out)).mono ?_
    rintro e w5 ⟨rfl, hb5⟩
    have O5 := Lib.hid (O4.out.stay hb5)
    have C5 := Lib.hid (C4.out.trans (hb5.mono C4.out.size))
    clear hb5 O4 C4
    cases b with
    | true =>
      have hfb : flat8 ts = xs := by
        rcases HTS.out with ⟨h1, h2⟩ | ⟨h1, -⟩
        · exact flat_back h1 h2
        · rw [HSB.out] at h1; cases h1
      rw [hfb] at HF
      clear hfb
      go_wp2_with fail
      refine (HF.out u2 w5 O5.out.rd).mono ?_
      rintro e w6 ⟨u6, rfl, ho6, hb6⟩
      have C6 := Lib.hid (C5.out.trans (hb6.mono C5.out.size))
      have R6 := Lib.hid (RdS.of_own ho6 (by rw [HN.out]; omega))
      clear ho6 hb6 C5 O5
      go_wp2_with fail
      refine (HSO.out u6 _ w6 R6.out (HR.out _ C6.out)).mono ?_
      rintro e w7 ⟨rfl, hb7⟩
      have C7 := Lib.hid (C6.out.trans (hb7.mono C6.out.size))
      clear hb7 C6 R6
      go_wp2_with fail
      refine (HSS.out _ w7 (HR.out _ C7.out)).mono ?_
      rintro e w8 ⟨rfl, hb8⟩
      have C8 := Lib.hid (C7.out.trans (hb8.mono C7.out.size))
      clear hb8 C7
      go_wp2_with fail
      refine (drawflat_any A len cap w8 (KEY.out w8 C8.out)).mono ?_
      rintro e w9 ⟨u9, rs, rfl, hr9, hrg9, hz9, hb9⟩
      have C9 := Lib.hid (C8.out.trans (hb9.mono C8.out.size))
      have R9 := Lib.hid (fun W (h : Below w9.heap.size w9 W) => hr9.stay h)
      have HI9 := Lib.hid (impl_flatof rs (by omega) hrg9 u9 w9 hr9)
      have HS9 := Lib.hid (fun u W (h : RdT W u rs) => spec_flatof rs (by omega) (rg_flatL rs hrg9) u W h)
      have HSH := Lib.hid (fun u W (h : RdS W u (flat8 rs)) => impl_shape (flat8 rs) (flat8_rng hrg9) u W h)
      have HSA := Lib.hid (fun a b W (h : RdS W a (flat8 rs)) (h2 : RdS W b (flat8 rs)) => sameops_same a b (flat8 rs) W (by have := flat8_len rs; omega) h h2)
      have HL9 := Lib.hid (flat8_len rs)
      have HTR := Lib.hid (flat8_shape rs)
      rw [HTR.out] at HSH
      clear hr9 hrg9 hz9 hb9 C8 HSS HSO HF HR HTS KEY
      go_wp2_with fail
      refine HI9.out.mono ?_
      rintro e w10 ⟨u10, rfl, ho10, hb10⟩
      have C10 := Lib.hid (C9.out.trans (hb10.mono C9.out.size))
      have O10 := Lib.hid ho10
      have D10 := Lib.hid hb10
      clear ho10 hb10 C9 HI9
      go_wp2_with fail
      refine (HS9.out u9 w10 (R9.out _ D10.out)).mono ?_
      rintro e w11 ⟨u11, rfl, ho11, hb11⟩
      have C11 := Lib.hid (C10.out.trans (hb11.mono C10.out.size))
      have O11 := Lib.hid ho11
      have P11 := Lib.hid (row_keep O10.out hb11)
      clear ho11 hb11 C10 O10 D10 HS9 R9
      go_wp2_with fail
      refine (HSA.out u10 u11 w11 (RdS.of_own P11.out (by have := HL9.out; omega)) (RdS.of_own O11.out (by have := HL9.out; omega))).mono ?_
      rintro e w12 ⟨rfl, hb12⟩
      have C12 := Lib.hid (C11.out.trans (hb12.mono C11.out.size))
      have P12 := Lib.hid (row_keep P11.out hb12)
      clear hb12 C11 P11 O11 HSA
      go_wp2_with fail
      refine (HSH.out u10 w12 (RdS.of_own P12.out (by have := HL9.out; omega))).mono ?_
      rintro e w13 ⟨rfl, hb13⟩
      have C13 := Lib.hid (C12.out.trans (hb13.mono C12.out.size))
      clear hb13 C12 P12 HSH
      go_wp2_with fail
      go_ret
      exact ⟨rfl, B1.out.trans (C13.out.mono B1.out.size)⟩
    | false =>
      have hfb : ts = [] := by
        rcases HTS.out with ⟨h1, h2⟩ | ⟨-, h1⟩
        · rw [HSB.out] at h1; cases h1
        · exact h1
      subst hfb
      obtain ⟨D, dc, rfl⟩ := O5.out.rd.form
      go_wp2_with fail
      refine (HSS.out _ w5 (HR.out _ C5.out)).mono ?_
      rintro e w8 ⟨rfl, hb8⟩
      have C8 := Lib.hid (C5.out.trans (hb8.mono C5.out.size))
      clear hb8 C5 O5
      go_wp2_with fail
      refine (drawflat_any A len cap w8 (KEY.out w8 C8.out)).mono ?_
      rintro e w9 ⟨u9, rs, rfl, hr9, hrg9, hz9, hb9⟩
      have C9 := Lib.hid (C8.out.trans (hb9.mono C8.out.size))
      have R9 := Lib.hid (fun W (h : Below w9.heap.size w9 W) => hr9.stay h)
      have HI9 := Lib.hid (impl_flatof rs (by omega) hrg9 u9 w9 hr9)
      have HS9 := Lib.hid (fun u W (h : RdT W u rs) => spec_flatof rs (by omega) (rg_flatL rs hrg9) u W h)
      have HSH := Lib.hid (fun u W (h : RdS W u (flat8 rs)) => impl_shape (flat8 rs) (flat8_rng hrg9) u W h)
      have HSA := Lib.hid (fun a b W (h : RdS W a (flat8 rs)) (h2 : RdS W b (flat8 rs)) => sameops_same a b (flat8 rs) W (by have := flat8_len rs; omega) h h2)
      have HL9 := Lib.hid (flat8_len rs)
      have HTR := Lib.hid (flat8_shape rs)
      rw [HTR.out] at HSH
      clear hr9 hrg9 hz9 hb9 C8 HSS HSO HF HR HTS KEY
      go_wp2_with fail
      refine HI9.out.mono ?_
      rintro e w10 ⟨u10, rfl, ho10, hb10⟩
      have C10 := Lib.hid (C9.out.trans (hb10.mono C9.out.size))
      have O10 := Lib.hid ho10
      have D10 := Lib.hid hb10
      clear ho10 hb10 C9 HI9
      go_wp2_with fail
      refine (HS9.out u9 w10 (R9.out _ D10.out)).mono ?_
      rintro e w11 ⟨u11, rfl, ho11, hb11⟩
      have C11 := Lib.hid (C10.out.trans (hb11.mono C10.out.size))
      have O11 := Lib.hid ho11
      have P11 := Lib.hid (row_keep O10.out hb11)
      clear ho11 hb11 C10 O10 D10 HS9 R9
      go_wp2_with fail
      refine (HSA.out u10 u11 w11 (RdS.of_own P11.out (by have := HL9.out; omega)) (RdS.of_own O11.out (by have := HL9.out; omega))).mono ?_
      rintro e w12 ⟨rfl, hb12⟩
      have C12 := Lib.hid (C11.out.trans (hb12.mono C11.out.size))
      have P12 := Lib.hid (row_keep P11.out hb12)
      clear hb12 C11 P11 O11 HSA
      go_wp2_with fail
      refine (HSH.out u10 w12 (RdS.of_own P12.out (by have := HL9.out; omega))).mono ?_
      rintro e w13 ⟨rfl, hb13⟩
      have C13 := Lib.hid (C12.out.trans (hb13.mono C12.out.size))
      clear hb13 C12 P12 HSH
      go_wp2_with fail
      go_ret
      exact ⟨rfl, B1.out.trans (C13.out.mono B1.out.size)⟩
end Go.Proofs.Ytlkkobffgbjkpaa
