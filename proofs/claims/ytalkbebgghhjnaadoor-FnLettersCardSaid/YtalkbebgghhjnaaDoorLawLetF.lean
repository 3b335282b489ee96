/-
  laws.FnLetters answers true at every draw: a letter comes back from its number and from its code.
-/
import Derived.Test.YtalkbebgghhjnaaDoorLawCodes
import Derived.Test.YtalkbebgghhjnaaDoorLettersMath
import Derived.Test.YtalkbebgghhjnaaDoorAt
import Derived.Test.YtalkbebgghhjnaaDoorDrawLetter
import Derived.Test.YtalkbebgghhjnaaDoorCode
namespace Go.Proofs.YtalkbebgghhjnaaDoor
open Go.RowKit Go

set_option maxRecDepth 100000 in
set_option maxHeartbeats 2000000 in
theorem law_FnLetters (A : Option Addr) (len cap : Nat) (w : World) (hcode : CodeOk w w.heap.size A len) (hcs : Codes w) :
    Calls Tryd.prog 3 #[.slice A len cap] w fun e w' => e = .returned (.bool true) ∧ Below w.heap.size w w' := by
  have HC := Lib.hid hcode
  have HCS := Lib.hid hcs
  clear hcode hcs
  by_cases hbig : (1048576 : Int) < (len : Int)
  · have hb1 : decide ((1048576 : Int) < (len : Int)) = true := by simpa using hbig
    go_enter Tryd.func3, Tryd.ntmps3
    go_wp2_with (go_at_call 6; refine (big_any _ _ _ _).mono ?_; rintro e w' ⟨rfl, rfl⟩)
    go_ret
    exact ⟨rfl, Below.refl _ _⟩
  · have hb1 : decide ((1048576 : Int) < (len : Int)) = false := by simpa using hbig
    clear hbig
    go_enter Tryd.func3, Tryd.ntmps3
    go_wp2_with (go_at_call 6; refine (big_any _ _ _ _).mono ?_; rintro e w' ⟨rfl, rfl⟩)
    refine (drawletter_any A len cap w HC.out).mono ?_
    rintro e w1 ⟨x, rfl, ⟨hx0, hx1⟩, hb1⟩
    have HB1 := Lib.hid hb1
    have HC1 := Lib.hid ((HC.out.below hb1).more hb1.size)
    have HCS1 := Lib.hid (HCS.out.below hb1)
    clear hb1
    by_cases hx : 0 ≤ x ∧ x ≤ 47
    · obtain ⟨k, rfl⟩ : ∃ k : Nat, x = k := ⟨x.toNat, by omega⟩
      have hk : k < 48 := by omega
      have n1 : decide ((k : Int) < 0) = false := by simp
      have n2 : decide ((48 : Int) ≤ (k : Int)) = false := by simp; omega
      obtain ⟨d, hd, hd0, hd1⟩ := widthOf_nat hk
      obtain ⟨hq1, hq2, -⟩ := code_apart k hk
      have hwN : wN k = d := by unfold wN; rw [hd]; rfl
      rw [hwN] at hq1
      have hbl : bN k ≤ 127 := by have := (bitsOf_range (k : Int)).2; omega
      obtain ⟨c, hc, hco⟩ := letAt_back hk
      have HW : ∀ W, Hid (Calls Tryd.prog 9 #[.int .i64 (k : Int)] W fun e w' => e = .returned (.int .i64 (d : Int)) ∧ W = w') := fun W => Lib.hid (by rw [← hd]; exact impl_widthof _ W)
      have HBT := Lib.hid (impl_bitsof (k : Int) w1 HCS1.out)
      rw [← hq2] at HBT
      have HLA : ∀ W, Hid (Calls Tryd.prog 8 #[.int .i64 (k : Int)] W fun e w' => e = .returned (.int .u8 (c.toNat : Int)) ∧ W = w') := fun W => Lib.hid (by rw [← hc]; exact impl_letterat _ W)
      have HLO : ∀ W, Hid (Calls Tryd.prog 13 #[.int .u8 (c.toNat : Int)] W fun e w' => e = .returned (.int .i64 (k : Int)) ∧ W = w') := fun W => Lib.hid (by rw [← hco]; exact impl_letterof _ W)
      have HFR : Hid (∀ rest r, r < 2 ^ rest → decodeN (bN k * 2 ^ rest + r) (d + rest) = ((k : Int), (d : Int))) := Lib.hid fun rest r h => by
        have := code_front k rest r hk h
        rw [hwN, hd] at this
        exact this
      obtain ⟨b, hb⟩ : ∃ b, bN k = b := ⟨_, rfl⟩
      rw [hb] at HBT HFR hbl hq1
      have HQ1 := Lib.hid hq1
      clear hx hd hq1 hq2 hwN hc hco hb
      go_wp2_with fail
      refine (HW w1).out.mono ?_
      rintro e w' ⟨rfl, rfl⟩
      go_wp2_with fail
      refine (at_any A len cap 1 (by omega) w1 HC1.out).mono ?_
      rintro e w' ⟨y1, rfl, hy1, rfl⟩
      go_wp2_with fail
      refine HBT.out.mono ?_
      rintro e w' ⟨rfl, rfl⟩
      go_wp2_with fail
      refine (at_any A len cap 2 (by omega) w1 HC1.out).mono ?_
      rintro e w' ⟨y2, rfl, hy2, rfl⟩
      go_wp2_with fail
      refine (at_any A len cap 3 (by omega) w1 HC1.out).mono ?_
      rintro e w' ⟨y3, rfl, hy3, rfl⟩
      go_wp2_with fail
      obtain ⟨rest, hrest⟩ : ∃ rest, y1 % 21 = rest := ⟨_, rfl⟩
      have hr20 : rest ≤ 20 := by omega
      obtain ⟨m, hm⟩ : ∃ m : Nat, m = y2 * 4099 + y3 := ⟨_, rfl⟩
      have hmI : (y2 : Int) * 4099 + (y3 : Int) = (m : Int) := by rw [hm]; push_cast; rfl
      have hrI : (y1 : Int) % 21 = (rest : Int) := by omega
      have hm2 : m < 4294967296 := by omega
      have hF := front_bits b m rest hbl hm2 hr20
      have hlt : m % 2 ^ rest < 2 ^ rest := Nat.mod_lt _ (Nat.two_pow_pos _)
      have hfr := HFR.out rest (m % 2 ^ rest) hlt
      have hdn : decode (b * 2 ^ rest + m % 2 ^ rest) ((d : Int) + (rest : Int)) = ((k : Int), (d : Int)) := by
        unfold decode
        rw [if_pos (by omega), show ((d : Int) + (rest : Int)).toNat = d + rest by omega]
        exact hfr
      have HDE := Lib.hid (impl_decode (b * 2 ^ rest + m % 2 ^ rest) ((d : Int) + (rest : Int)) w1 HCS1.out)
      rw [hdn] at HDE
      have d4 : decide ((4 : Int) ≤ (d : Int)) = true := by simp; omega
      have d7 : decide ((d : Int) ≤ 7) = true := by simp; omega
      rw [hmI, hrI, hrest, hF]
      clear hrest hm hmI hrI hF hfr hdn hlt
      refine HDE.out.mono ?_
      rintro e w' ⟨rfl, rfl⟩
      go_wp2_with fail
      refine (HLA w1).out.mono ?_
      rintro e w' ⟨rfl, rfl⟩
      go_wp2_with fail
      refine (HLO w1).out.mono ?_
      rintro e w' ⟨rfl, rfl⟩
      go_wp2_with fail
      go_ret
      exact ⟨rfl, HB1.out⟩
    · have e1 := letAt_none hx
      have e2 : widthOf x = 0 := by
        unfold widthOf
        by_cases h0 : x < 0
        · rw [if_pos h0]
        · rw [if_neg h0, if_neg (by omega), if_neg (by omega), if_neg (by omega)]
      have HW := Lib.hid (impl_widthof x w1)
      have HLA := Lib.hid (impl_letterat x w1)
      rw [e2] at HW
      rw [e1] at HLA
      clear e1 e2
      by_cases h0 : x < 0
      · clear hx
        go_wp2_with fail
        refine HLA.out.mono ?_
        rintro e w' ⟨rfl, rfl⟩
        go_wp2_with fail
        refine HW.out.mono ?_
        rintro e w' ⟨rfl, rfl⟩
        go_wp2_with fail
        go_ret
        exact ⟨rfl, HB1.out⟩
      · have n1 : decide (x < 0) = false := by simpa using h0
        have n2 : decide (48 ≤ x) = true := by simp; omega
        clear hx h0
        go_wp2_with fail
        refine HLA.out.mono ?_
        rintro e w' ⟨rfl, rfl⟩
        go_wp2_with fail
        refine HW.out.mono ?_
        rintro e w' ⟨rfl, rfl⟩
        go_wp2_with fail
        go_ret
        exact ⟨rfl, HB1.out⟩
end Go.Proofs.YtalkbebgghhjnaaDoor
