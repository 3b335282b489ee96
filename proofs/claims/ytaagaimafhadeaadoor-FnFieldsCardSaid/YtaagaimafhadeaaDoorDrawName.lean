/-
  The model's draws: yes or no, a name.
-/
import Derived.Test.YtaagaimafhadeaaDoorDrawStrs
import Derived.Test.YtaagaimafhadeaaDoorUnpOne
namespace Go.Proofs.YtaagaimafhadeaaDoor
open Go.RowKit Go

theorem once_any (g : Nat) (n : Nat) (h1 : n ≤ 1000) (w : World) (hc : CurAt w g) : Calls Tryd.prog 32 #[.pointer (some ⟨g, 0, none⟩), .int .i64 (n : Int)] w fun e w' => ∃ b : Bool, e = .returned (.bool b) ∧ CurAt w' g ∧ w.grownBy w' (some g) := by
  have HC := Lib.hid (below_any g (n : Int) (by omega) (by omega) w hc)
  clear hc
  go_enter Tryd.func32, Tryd.ntmps32
  go_wp2_with fail
  refine HC.out.mono ?_
  rintro e w1 ⟨x, rfl, -, hc1, hg1⟩
  have HG := Lib.hid hg1
  have HC1 := Lib.hid hc1
  clear hg1 hc1
  go_wp2_with fail
  go_ret
  exact ⟨_, rfl, HC1.out, HG.out⟩
theorem cur_lt {w : World} {g : Nat} (h : CurAt w g) : g < w.heap.size := by
  obtain ⟨_, _, _, _, _, hb, _⟩ := h
  exact hb.lt
theorem only_app {w wr w1 : World} {g : Nat} {row : Option Nat} (h : w.grownBy wr (some g)) (hg : wr.grownBy w1 row) (hr : ∀ k, row = some k → w.heap.size ≤ k) : w.grownBy w1 (some g) :=
  ⟨hg.os.trans h.os, hg.tape.trans h.tape, hg.output.trans h.output, Nat.le_trans h.size hg.size, fun i hi hne => (hg.block i (Nat.lt_of_lt_of_le hi h.size) (fun e => by have := hr i e.symm; omega)).trans (h.block i hi hne)⟩
theorem own_ne {w : World} {base : Nat} {e : TypeId} {size : Nat} {v : Value} {n : Nat} {xs : List Value} {g : Nat} (h : w.ownsRow base e size v n xs) (hg : g < base) : v.ownBlock = none ∨ v.ownBlock ≠ some g :=
  .inr (fun e => by have := own_lt h g e; omega)
/-- A name is drawn, of at most nine bytes. -/
def NamedS (g : Nat) (w : World) (e : Ending) (w' : World) : Prop := ∃ s : ByteArray, e = .returned (.string s) ∧ s.size ≤ 9 ∧ CurAt w' g ∧ w.grownBy w' (some g)
def drawnNames : List ByteArray := [⟨#[100, 117, 112]⟩, ⟨#[111, 118, 101, 114]⟩, ⟨#[115, 113, 117, 97, 114, 101]⟩, ⟨#[97, 33]⟩, ⟨#[50, 42]⟩, ⟨#[103, 111]⟩, ⟨#[45, 105, 102]⟩, ⟨#[59]⟩, ⟨#[63]⟩, ⟨#[114, 114, 114, 114, 114, 114, 114]⟩, ⟨#[114, 116, 111, 101, 97, 110, 105]⟩, ⟨#[119, 119, 119, 119, 119, 119]⟩, ⟨#[113, 113, 113, 113, 113]⟩, ⟨#[120]⟩]
theorem drawnNames_size : ∀ x ∈ drawnNames, x.size ≤ 9 := by decide

set_option maxRecDepth 100000 in
set_option maxHeartbeats 2000000 in
theorem name_any (g : Nat) (w : World) (hc : CurAt w g) : Calls Tryd.prog 31 #[.pointer (some ⟨g, 0, none⟩)] w (NamedS g w) := by
  obtain ⟨i0, hinf, hz0, hz1, hz2⟩ := info_parts infoU8
  have HO := Lib.hid (once_any g 2 (by decide) w hc)
  have hgl := cur_lt hc
  clear hc
  go_enter Tryd.func31, Tryd.ntmps31
  go_wp2_with fail
  refine HO.out.mono ?_
  rintro e w1 ⟨b, rfl, hc1, hg1⟩
  have HC1 := Lib.hid hc1
  have HG1 := Lib.hid hg1
  have hs1 := hg1.size
  clear hc1 hg1 HO
  cases b with
  | true =>
    have PK := pick_any g w1.heap.size drawnNames _ (HC1.out.grown (World.grownBy_alloc w1 _ none) (fun _ h => by cases h)) (strs_new w1 9 drawnNames) (by omega) (by simp) (by decide) (by decide)
    have HPK := Lib.hid PK
    clear PK
    go_wp2_with fail
    refine HPK.out.mono ?_
    rintro e w2 ⟨x, rfl, hx, hc2, hg2⟩
    have hx9 := drawnNames_size x hx
    have HC2 := Lib.hid hc2
    have HG2 := Lib.hid (only_trans (only_alloc HG1.out _) hg2)
    clear hx hc2 hg2
    go_wp2_with fail
    go_ret
    exact ⟨x, rfl, hx9, HC2.out, HG2.out⟩
  | false =>
    have HB := Lib.hid (below_any g 9 (by omega) (by omega) _ (HC1.out.grown (World.grownBy_alloc w1 (.cells #[] 5) none) (fun _ h => by cases h)))
    have HE := Lib.hid (own_empty w1 5)
    go_wp2_with fail
    refine HB.out.mono ?_
    rintro e w2 ⟨y, rfl, ⟨hy0, hy1⟩, hc2, hg2⟩
    have hy2 : y ≤ 8 := by simpa using hy1
    have hO2 := HE.out.kept hg2 (own_ne HE.out (by omega))
    have hG2 := only_trans (only_alloc HG1.out (.cells #[] 5)) hg2
    have HO2 := Lib.hid hO2
    have HG2 := Lib.hid hG2
    have HC2 := Lib.hid hc2
    clear hy1 hc2 hg2 hO2 hG2 HB HE
    go_wp2_with fail
    go_loopw [3, 5] (fun vo vi wr => ∃ (i : Nat) (l : List UInt8), vi = .int .i64 i ∧ l.length = i ∧ (i : Int) ≤ 1 + y ∧ wr.ownsRow w1.heap.size 5 1 vo l.length (l.map u8v) ∧ Hid (CurAt wr g ∧ w.grownBy wr (some g) ∧ w1.heap.size ≤ wr.heap.size)) (fun _ vi _ => (1 + y).toNat - (intOf vi).toNat)
    case atStart => exact ⟨0, [], rfl, rfl, by omega, HO2.out, Lib.hid ⟨HC2.out, HG2.out, by
      have h1 := hs1
      have h2 := (HO2.out.2)
      rcases h2 with ⟨h3, _⟩ | ⟨k, _, _, h3, h4, h5, _⟩
      · cases h3
      · have := (Array.getElem?_eq_some_iff.1 h5).1; omega⟩⟩
    case round =>
      obtain ⟨i, l, rfl, hl, hi, hown, HW⟩ := hrel
      obtain ⟨hcr, hgr, hsr⟩ := HW.out
      by_cases hp : (i : Int) < 1 + y
      · have HB := Lib.hid (below_any g 47 (by omega) (by omega) _ hcr)
        clear hcr hgr
        go_wp2_with fail
        refine HB.out.mono ?_
        rintro e w3 ⟨k, rfl, ⟨hk0, hk1⟩, hc3, hg3⟩
        have hk2 : k ≤ 46 := by simpa using hk1
        obtain ⟨m, rfl⟩ : ∃ m : Nat, k = m := ⟨k.toNat, by omega⟩
        have hO3 := hown.kept hg3 (own_ne hown (by omega))
        have HL : Hid (∀ W, Calls Tryd.prog 46 #[.int .i64 (1 + (m : Int))] W fun e w' => e = .returned (.int .u8 ((byteAt ((1 + m : Nat) : Int)).toNat : Int)) ∧ W = w') := Lib.hid fun W => by
          rw [← byteAt_int (k := 1 + m) (by omega)]
          have e : ((1 + m : Nat) : Int) = 1 + (m : Int) := by omega
          rw [e]
          exact spec_letterat _ W
        obtain ⟨c, hcc⟩ : ∃ c, byteAt ((1 + m : Nat) : Int) = c := ⟨_, rfl⟩
        rw [hcc] at HL
        have hs3 := hg3.size
        have HC3 := Lib.hid hc3
        have HG3 := Lib.hid (only_trans HW.out.2.1 hg3)
        clear hcc hk1 hc3 hg3 hown HB HW
        go_wp2_with fail
        refine (HL.out _).mono ?_
        rintro e w' ⟨rfl, rfl⟩
        go_wp2_with (at_builtin; refine wpList_append_own _ rfl _ _ 22 rfl w1.heap.size 5 i0 (.int .u8 0) 1 1 Tryd.underlying22 hinf hz0 hz1 hz2 rfl (by decide) _ _ _ rfl (hO3.alloc _) ⟨w3.heap.size, 0, none⟩ 1 1 [.int .u8 (c.toNat : Int)] rfl rfl (cell_one_new _ _ _) (by simp [Value.oneCell']) (by unfold maxLen; omega) (by omega) (by simp; omega) ?_; intro v' w4 hown' hgrow _)
        have hgs := hgrow.size
        have hal : w3.heap.size ≤ (w3.alloc (.cells #[.int .u8 (c.toNat : Int)] 5)).heap.size := by simp
        go_roundw
        case rel => exact ⟨i + 1, l ++ [c], by go_num, by simp [hl], by omega, by simpa [u8v] using hown', Lib.hid ⟨(HC3.out.grown (World.grownBy_alloc w3 _ none) (fun _ h => by cases h)).grown hgrow (fun k hk => by have := own_lt hO3 k hk; omega), only_app (only_alloc HG3.out _) hgrow (fun k hk => by have := own_lt hO3 k hk; omega), by omega⟩⟩
        case measure => simp [intOf]; omega
      · have hstr := own_string (P := Tryd.prog) (src := 22) (dst := 9) Tryd.underlying22 Tryd.underlying5 Tryd.underlying9 hown
        clear hown hcr hgr
        go_wp2_with fail
        go_ret
        exact ⟨_, rfl, by show l.length ≤ 9; omega, HW.out.1, HW.out.2.1⟩
end Go.Proofs.YtaagaimafhadeaaDoor
