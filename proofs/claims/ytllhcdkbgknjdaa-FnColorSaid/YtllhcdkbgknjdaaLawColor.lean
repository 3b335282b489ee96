/-
  laws.FnColor answers true at every input, whatever the tables hold.
-/
import Derived.Test.YtllhcdkbgknjdaaDrawItems
import Derived.Deep.RegionWith
namespace Go.Proofs.Ytllhcdkbgknjdaa
open Go.RowKit Go

theorem recol_in {it : It} (h : ItIn it) {k : Int} (hk : -9223372036854775808 ≤ k ∧ k ≤ 9223372036854775807) : ItIn (recol it k) := by
  unfold recol
  split
  · exact ⟨hk.1, hk.2, h.n1, h.n2, h.r, h.s⟩
  · exact ⟨by show (-9223372036854775808 : Int) ≤ 0; decide, by show (0 : Int) ≤ 9223372036854775807; decide, by show (-2147483648 : Int) ≤ 0; decide, by show (0 : Int) ≤ 2147483647; decide, by show 0 < 4294967296; decide, by show 0 ≤ 4611686018427387904; decide⟩
def TrueEnd (w : World) (e : Ending) (w' : World) : Prop := e = .returned (.bool true) ∧ Below w.heap.size w w'

set_option maxHeartbeats 8000000 in
theorem law_FnColor (A : Option Addr) (len cap : Nat) (w : World) (hcode : CodeOk w w.heap.size A len) (hcs : TabsAny w) : Calls Try.prog 3 #[.slice A len cap] w (TrueEnd w) := by
  by_cases hbig : 1048576 < (len : Int)
  · have HB := Lib.hid (big_any A len cap w)
    rw [decide_eq_true hbig] at HB
    clear hbig hcode hcs
    go_enter Try.func3, Try.ntmps3
    go_wp2_with fail
    refine HB.out.mono ?_
    rintro e w' ⟨rfl, rfl⟩
    go_wp2_with fail
    go_ret
    exact ⟨rfl, Below.refl _ _⟩
  have HB := Lib.hid (big_any A len cap w)
  rw [decide_eq_false hbig] at HB
  have HD := Lib.hid (drawrec_any A len cap w hcode)
  have HCS := Lib.hid hcs
  clear hbig hcode hcs
  go_enter Try.func3, Try.ntmps3
  go_wp2_with fail
  refine HB.out.mono ?_
  rintro e w' ⟨rfl, rfl⟩
  go_wp2_with fail
  refine HD.out.mono ?_
  rintro e w1 ⟨it, kind, rfl, hin, hsz, hkind, hb1⟩
  have hk64 : -9223372036854775808 ≤ kind ∧ kind ≤ 9223372036854775807 := by omega
  have HRB := Lib.hid (fun h => recol_back (it := it) (k := kind) h)
  have hro := recol_in hin hk64
  have HI := Lib.hid (fun W (hb : Below w.heap.size w W) => impl_recolor it hin kind W (HCS.out.below hb) (by omega))
  have HS := Lib.hid (fun W => spec_recolor it hin kind W)
  unfold RecEnd at HI HS
  obtain ⟨b, hb⟩ : ∃ b, recolOk it kind = b := ⟨_, rfl⟩
  rw [hb] at HI HS HRB
  obtain ⟨k, nm, n, x, r⟩ := it
  have hB1 := hb1.alloc hb1.size (.cells (itC k nm n x (r : Int)) 26)
  have kb1 := Blk.new w1 26 (itC k nm n x (r : Int))
  have HB1 := Lib.hid hB1
  have KB1 := Lib.hid kb1
  have HIN := Lib.hid hin
  have HSZ := Lib.hid hsz
  have HWL := Lib.hid hb1.size
  clear hB1 kb1 hin hsz hk64 hb1 HB HD hkind
  go_wp2_with fail
  refine (HI.out _ HB1.out).mono ?_
  rintro e w2 ⟨rfl, hb2⟩
  have kb2 := KB1.out.below hb2 (by simp)
  have hB2 := HB1.out.trans (hb2.mono HB1.out.size)
  have hlt2 : w1.heap.size < w2.heap.size := by have := hb2.size; simp at this; omega
  obtain ⟨c0, c1, c2, c3, c4⟩ := cells5 kb2
  cases b with
  | false =>
    have e0 : recol ⟨k, nm, n, x, r⟩ kind = zeroIt := by unfold recol; rw [if_neg (by rw [hb]; decide)]
    rw [e0] at HS ⊢
    have ko := Blk.new w2 26 (itC 0 ⟨#[]⟩ 0 false 0)
    have HB2 := Lib.hid (hB2.alloc hB2.size (.cells (itC 0 ⟨#[]⟩ 0 false 0) 26))
    have KO := Lib.hid ko
    have HLT2 := Lib.hid hlt2
    clear hb e0 hb2 kb2 hB2 ko HRB hro HI
    go_wp2_with fail
    refine (HS.out _).mono ?_
    rintro e w3 ⟨rfl, hb3⟩
    have ko3 := KO.out.below hb3 (by simp)
    have hB3 := HB2.out.trans (hb3.mono HB2.out.size)
    have hlt3 : w2.heap.size < w3.heap.size := by have := hb3.size; simp at this; omega
    obtain ⟨d0, d1, d2, d3, d4⟩ := cells5 ko3
    have HB3 := Lib.hid (hB3.alloc hB3.size (.cells (itC 0 ⟨#[]⟩ 0 false 0) 26))
    clear hb3 ko3 hB3 c0 c1 c2 c3 c4 hlt2
    go_wp2_with fail
    go_ret
    exact ⟨rfl, HB3.out⟩
  | true =>
    have e0 : recol ⟨k, nm, n, x, r⟩ kind = ⟨kind, nm, n, x, r⟩ := by unfold recol; rw [if_pos hb]
    obtain ⟨r1, r2, r3, -⟩ := HRB.out rfl
    rw [e0] at HS hro r1 r2 r3 ⊢
    have HI2 := Lib.hid (fun W (hb : Below w.heap.size w W) => impl_recolor ⟨kind, nm, n, x, r⟩ hro k W (HCS.out.below hb) (Nat.le_trans HSZ.out (by decide)))
    unfold RecEnd at HI2
    rw [show recol ⟨kind, nm, n, x, r⟩ k = ⟨k, nm, n, x, r⟩ from r2, show recolOk ⟨kind, nm, n, x, r⟩ k = true from r1] at HI2
    have HCO := Lib.hid (fun W (hb : Below w.heap.size w W) => impl_cellsof ⟨kind, nm, n, x, r⟩ hro W (HCS.out.below hb))
    have HCI := Lib.hid (fun W (hb : Below w.heap.size w W) => impl_cellsof ⟨k, nm, n, x, r⟩ HIN.out W (HCS.out.below hb))
    rw [r3] at HCO
    obtain ⟨m, hm⟩ : ∃ m, (cellsOf ⟨k, nm, n, x, r⟩).length = m := ⟨_, rfl⟩
    rw [hm] at HCO HCI
    have ko := Blk.new w2 26 (itC kind nm n x (r : Int))
    have HB2 := Lib.hid (hB2.alloc hB2.size (.cells (itC kind nm n x (r : Int)) 26))
    have KO := Lib.hid ko
    have KI := Lib.hid (kb2.alloc (.cells (itC kind nm n x (r : Int)) 26))
    have HLT2 := Lib.hid hlt2
    clear hb e0 hb2 kb2 hB2 ko HRB hro HI r1 r2 r3 hm
    go_wp2_with fail
    refine (HS.out _).mono ?_
    rintro e w3 ⟨rfl, hb3⟩
    have ko3 := KO.out.below hb3 (by simp)
    have ki3 := KI.out.below hb3 (by have := HLT2.out; simp; omega)
    have hB3 := HB2.out.trans (hb3.mono HB2.out.size)
    have hlt3 : w2.heap.size < w3.heap.size := by have := hb3.size; simp at this; omega
    have hlt4 : w1.heap.size < w3.heap.size := by omega
    obtain ⟨d0, d1, d2, d3, d4⟩ := cells5 ko3
    have g0 := ki3.cell 0
    change w3.cell? ⟨w1.heap.size, 0, none⟩ = some (.int .i64 k) at g0
    have HB3 := Lib.hid (hB3.alloc hB3.size (.cells (itC kind nm n x (r : Int)) 26))
    have KO3 := Lib.hid (ko3.alloc (.cells (itC kind nm n x (r : Int)) 26))
    have KI3 := Lib.hid (ki3.alloc (.cells (itC kind nm n x (r : Int)) 26))
    have HL3 := Lib.hid hlt3
    clear hb3 ko3 ki3 hB3 c0 c1 c2 c3 c4 hlt2 KO KI HB2 HB1 KB1
    go_wp2_with fail
    refine (HI2.out _ HB3.out).mono ?_
    rintro e w4 ⟨rfl, hb4⟩
    have ko4 := KO3.out.below hb4 (by have := HL3.out; simp; omega)
    have ki4 := KI3.out.below hb4 (by have := HL3.out; have := HLT2.out; simp; omega)
    have hB4 := HB3.out.trans (hb4.mono HB3.out.size)
    have hlt5 : w2.heap.size < w4.heap.size := by have h5 := hb4.size; have := HL3.out; simp at h5; omega
    have hlt6 : w1.heap.size < w4.heap.size := by have := HLT2.out; omega
    have kk := Blk.new w4 26 (itC k nm n x (r : Int))
    have ko5 := ko4.alloc (.cells (itC k nm n x (r : Int)) 26)
    have ki5 := ki4.alloc (.cells (itC k nm n x (r : Int)) 26)
    have hB5 := hB4.alloc hB4.size (.cells (itC k nm n x (r : Int)) 26)
    clear hb4 ko4 ki4 hB4 d0 d1 d2 d3 d4 g0 hlt3 hlt4 KO3 KI3 HB3 HL3 HLT2 HI2 HS
    go_wp2_with fail
    change Code.wp _ _ _ _ (w4.alloc (.cells (itC k nm n x (r : Int)) 26))
    generalize w4.alloc (.cells (itC k nm n x (r : Int)) 26) = W5 at kk ko5 ki5 hB5 ⊢
    obtain ⟨Bi, hBi⟩ : ∃ B, w1.heap.size = B := ⟨_, rfl⟩
    obtain ⟨Bo, hBo⟩ : ∃ B, w2.heap.size = B := ⟨_, rfl⟩
    obtain ⟨Bk, hBk⟩ : ∃ B, w4.heap.size = B := ⟨_, rfl⟩
    rw [hBi] at ki5 ⊢
    rw [hBo] at ko5 ⊢
    rw [hBk] at kk ⊢
    obtain ⟨a0, a1, a2, a3, a4⟩ := cells5 ki5
    obtain ⟨c0, c1, c2, c3, c4⟩ := cells5 ko5
    obtain ⟨d0, d1, d2, d3, d4⟩ := cells5 kk
    have KI := Lib.hid ki5
    have KO := Lib.hid ko5
    have HB5 := Lib.hid hB5
    clear kk ki5 ko5 hB5 hBi hBo hBk hlt5 hlt6 HWL HIN HSZ
    go_region_with (first
      | (go_at_call 9; refine (HCI.out _ HB6.out).mono ?_; rintro e w7 ⟨v7, z7, rfl, hl7, -, hown7, hb7⟩; obtain ⟨A7, cap7, rfl⟩ := own_slice hown7; rw [hl7]; have ko7 := KO6.out.below hb7 KO6.out.lt; obtain ⟨c0, c1, c2, c3, c4⟩ := cells5 ko7; have HB7 := Lib.hid (HB6.out.trans (hb7.mono HB6.out.size)); clear hb7 hown7 hl7 ko7)
      | (go_at_call 9; refine (HCO.out _ HB5.out.drew).mono ?_; rintro e w6 ⟨v6, z6, rfl, hl6, -, hown6, hb6⟩; obtain ⟨A6, cap6, rfl⟩ := own_slice hown6; rw [hl6]; have ki6 := KI.out.drew.below hb6 KI.out.lt; have ko6 := KO.out.drew.below hb6 KO.out.lt; obtain ⟨a0, a1, a2, a3, a4⟩ := cells5 ki6; obtain ⟨c0, c1, c2, c3, c4⟩ := cells5 ko6; have KO6 := Lib.hid ko6; have HB6 := Lib.hid (HB5.out.drew.trans (hb6.mono HB5.out.size)); clear hb6 hown6 hl6 ki6 ko6))
    all_goals
      go_wp2_with fail
      go_ret
      exact ⟨rfl, HB7.out⟩
end Go.Proofs.Ytllhcdkbgknjdaa
