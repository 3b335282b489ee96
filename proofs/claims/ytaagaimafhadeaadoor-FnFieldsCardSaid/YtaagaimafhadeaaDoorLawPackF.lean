/-
  laws.FnPack and laws.FnFields answer true at every draw: names come back from their fields, and fields that are a name's are those that it is packed into.
-/
import Derived.Test.YtaagaimafhadeaaDoorDrawPack
import Derived.Test.YtaagaimafhadeaaDoorAt
import Derived.Test.YtaagaimafhadeaaDoorCode
namespace Go.Proofs.YtaagaimafhadeaaDoor
open Go.RowKit Go

set_option maxRecDepth 100000 in
set_option maxHeartbeats 4000000 in
theorem law_FnPack (A : Option Addr) (len cap : Nat) (w : World) (hcode : CodeOk w w.heap.size A len) (hcs : Codes w) :
    Calls Tryd.prog 3 #[.slice A len cap] w fun e w' => e = .returned (.bool true) ∧ Below w.heap.size w w' := by
  have HC := Lib.hid hcode
  have HCS := Lib.hid hcs
  clear hcode hcs
  by_cases hbig : (1048576 : Int) < (len : Int)
  · have hb1 : decide ((1048576 : Int) < (len : Int)) = true := by simpa using hbig
    go_enter Tryd.func3, Tryd.ntmps3
    go_wp2_with (go_at_call 10; refine (big_any _ _ _ _).mono ?_; rintro e w' ⟨rfl, rfl⟩)
    go_ret
    exact ⟨rfl, Below.refl _ _⟩
  · have hb1 : decide ((1048576 : Int) < (len : Int)) = false := by simpa using hbig
    clear hbig
    go_enter Tryd.func3, Tryd.ntmps3
    go_wp2_with (go_at_call 10; refine (big_any _ _ _ _).mono ?_; rintro e w' ⟨rfl, rfl⟩)
    refine (drawpack_any A len cap w HC.out).mono ?_
    rintro e w1 ⟨s, rfl, hs, hb1⟩
    have HB1 := Lib.hid hb1
    have HP := Lib.hid (impl_pack s (by omega) w1 (HCS.out.below hb1))
    have hN := spec_nameok s (by omega)
    rw [nameOk_list] at hN
    have hpl := (packs_len s.data.toList).2
    have hps := packs_small s.data.toList
    have hok : nameL s.data.toList = true → fieldsOk (packs s.data.toList) = true ∧ unpAll (packs s.data.toList) = s.data.toList := fieldsOk_packs
    have hmem : nameL s.data.toList = true → ∀ f ∈ packs s.data.toList, fieldsOk [f] = true := fieldsOk_mem
    have hsome : nameL s.data.toList = true → packs s.data.toList ≠ [] := packs_some
    have hnone : nameL s.data.toList = false → packs s.data.toList = [] := packs_no
    obtain ⟨ls, hls⟩ : ∃ ls, packs s.data.toList = ls := ⟨_, rfl⟩
    rw [hls] at HP hpl hps hok hmem hsome hnone
    obtain ⟨q, hq⟩ : ∃ q, nameL s.data.toList = q := ⟨_, rfl⟩
    rw [hq] at hN hok hmem hsome hnone
    have HN := Lib.hid hN
    have HX : Hid (∀ x ∈ ls, x < 4294967296) := Lib.hid fun x h => by have := hps x h; omega
    clear hb1 hls hN hq hps
    go_wp2_with fail
    refine HP.out.mono ?_
    rintro e w2 ⟨v, rfl, ho2, hb2⟩
    have HB2 := Lib.hid (HB1.out.trans (hb2.mono HB1.out.size))
    have hr := RdN.of_own ho2 (by omega)
    have HR := Lib.hid hr
    obtain ⟨A2, c2, rfl, -, hcell⟩ := hr
    have HCELL := Lib.hid hcell
    clear ho2 hb2 hcell HP
    go_wp2_with fail
    refine (HN.out _).mono ?_
    rintro e w' ⟨rfl, rfl⟩
    cases q with
    | false =>
      have hz := hnone rfl
      subst hz
      clear hok hmem hsome hnone
      go_wp2_with fail
      go_ret
      exact ⟨rfl, HB2.out⟩
    | true =>
      obtain ⟨hf1, hf2⟩ := hok rfl
      have hne := hsome rfl
      have HM := Lib.hid (hmem rfl)
      have hpos : 0 < ls.length := List.length_pos_iff.2 hne
      have HU := impl_unpack _ ls HX.out w2 HR.out (HCS.out.below HB2.out)
      rw [unpEnd_yes hf1 hf2.symm] at HU
      have HU := Lib.hid HU
      clear hok hmem hsome hnone hf1 hf2 hne
      go_wp2_with fail
      refine HU.out.mono ?_
      rintro e w3 ⟨rfl, hb3⟩
      have HB3 := Lib.hid (HB2.out.trans (hb3.mono HB2.out.size))
      have HB23 := Lib.hid hb3
      clear hb3 HU
      go_wp2_with fail
      go_loopw [7] (fun vi wr => ∃ i : Nat, vi = .int .i64 i ∧ i ≤ ls.length ∧ Hid (Below w2.heap.size w2 wr)) (fun vi _ => ls.length - (intOf vi).toNat)
      case atStart => exact ⟨0, rfl, by omega, HB23⟩
      case round =>
        obtain ⟨i, rfl, hi, HBr⟩ := hrel
        by_cases hp : i < ls.length
        · obtain ⟨a, rfl, hal, hc⟩ := HCELL.out i hp
          have hc2 : wr.cell? (a.add i) = some (.int .u32 (ls[i] : Int)) := (HBr.out.cell (by rw [addr_addb]; exact hal)).trans hc
          have hB0 := HB2.out.trans (HBr.out.mono HB2.out.size)
          have HF := impl_fieldok ls[i] (HX.out _ (List.getElem_mem hp)) wr (HCS.out.below hB0)
          rw [HM.out _ (List.getElem_mem hp)] at HF
          obtain ⟨x, hxx⟩ : ∃ x, ls[i] = x := ⟨_, rfl⟩
          rw [hxx] at HF hc2
          have HF := Lib.hid HF
          have i2 : (i : Int) < (ls.length : Int) := by omega
          clear hxx hc hal hB0
          go_wp2_with fail
          refine HF.out.mono ?_
          rintro e w4 ⟨rfl, hb4⟩
          have HB4 := Lib.hid (HBr.out.trans (hb4.mono HBr.out.size))
          clear hb4 HF
          go_wp2_with fail
          go_roundw
          case rel => exact ⟨i + 1, by go_num, by omega, HB4⟩
          case measure => simp [intOf]; omega
        · obtain rfl : i = ls.length := by omega
          have hB0 := Lib.hid (HB2.out.trans (HBr.out.mono HB2.out.size))
          go_wp2_with fail
          go_ret
          exact ⟨rfl, hB0.out⟩

set_option maxRecDepth 100000 in
set_option maxHeartbeats 4000000 in
theorem law_FnFields (A : Option Addr) (len cap : Nat) (w : World) (hcode : CodeOk w w.heap.size A len) (hcs : Codes w) :
    Calls Tryd.prog 4 #[.slice A len cap] w fun e w' => e = .returned (.bool true) ∧ Below w.heap.size w w' := by
  have HC := Lib.hid hcode
  have HCS := Lib.hid hcs
  clear hcode hcs
  by_cases hbig : (1048576 : Int) < (len : Int)
  · have hb1 : decide ((1048576 : Int) < (len : Int)) = true := by simpa using hbig
    go_enter Tryd.func4, Tryd.ntmps4
    go_wp2_with (go_at_call 10; refine (big_any _ _ _ _).mono ?_; rintro e w' ⟨rfl, rfl⟩)
    go_ret
    exact ⟨rfl, Below.refl _ _⟩
  · have hb1 : decide ((1048576 : Int) < (len : Int)) = false := by simpa using hbig
    clear hbig
    go_enter Tryd.func4, Tryd.ntmps4
    go_wp2_with (go_at_call 10; refine (big_any _ _ _ _).mono ?_; rintro e w' ⟨rfl, rfl⟩)
    refine (drawunpack_any A len cap w HC.out).mono ?_
    rintro e w1 ⟨v, ls, rfl, hr, hx, hl100, hb1⟩
    have HB1 := Lib.hid hb1
    have HR1 := Lib.hid hr
    have HX := Lib.hid hx
    have HU1 := impl_unpack v ls hx w1 hr (HCS.out.below hb1)
    have HU2 : ∀ W, Below w1.heap.size w1 W → Calls Tryd.prog 17 #[v] W fun e w' => e = UnpEnd ls ∧ Below W.heap.size W w' := fun W hb => spec_unpack v ls hx W (hr.below hb)
    unfold UnpEnd at HU1 HU2
    have hback : fieldsOk ls = true → unpacked ls = unpAll ls ∧ packs (unpAll ls) = ls := fun h => ⟨unpacked_yes h, fieldsOk_back h⟩
    have hno : fieldsOk ls = false → unpacked ls = [] := unpacked_no
    have hul : (unpacked ls).length ≤ 2800 := by
      have h1 := unpAll_len ls
      unfold unpacked
      split
      · omega
      · exact Nat.zero_le _
    obtain ⟨t, ht⟩ : ∃ t : ByteArray, (⟨(unpacked ls).toArray⟩ : ByteArray) = t := ⟨_, rfl⟩
    have htl : t.data.toList = unpacked ls := by rw [← ht]
    have hts : t.size ≤ 2800 := by rw [← ht]; exact hul
    obtain ⟨q, hq⟩ : ∃ q, fieldsOk ls = q := ⟨_, rfl⟩
    rw [ht, hq] at HU1 HU2
    rw [hq] at hback hno
    have HU1 := Lib.hid HU1
    have HU2 := Lib.hid HU2
    have HTL := Lib.hid htl
    clear hb1 hr hx hul ht htl hq
    go_wp2_with fail
    refine HU1.out.mono ?_
    rintro e w2 ⟨rfl, hb2⟩
    have HB2 := Lib.hid (HB1.out.trans (hb2.mono HB1.out.size))
    have HB12 := Lib.hid hb2
    have HU2 := Lib.hid (HU2.out w2 hb2)
    clear hb2 HU1
    go_wp2_with fail
    refine HU2.out.mono ?_
    rintro e w3 ⟨rfl, hb3⟩
    have HB3 := Lib.hid (HB2.out.trans (hb3.mono HB2.out.size))
    have HB13 := Lib.hid (HB12.out.trans (hb3.mono HB12.out.size))
    have HD := Lib.hid (drawfieldok_any A len cap w3 ((HC.out.below HB3.out).more HB3.out.size))
    clear hb3 HU2
    go_wp2_with fail
    refine HD.out.mono ?_
    rintro e w4 ⟨f, rfl, hf, hb4⟩
    have HB4 := Lib.hid (HB3.out.trans (hb4.mono HB3.out.size))
    have HB14 := Lib.hid (HB13.out.trans (hb4.mono HB13.out.size))
    have HFI : ∀ W, Below w.heap.size w W → Hid (Calls Tryd.prog 15 #[.int .u32 (f : Int)] W fun e w' => e = .returned (.bool (fieldsOk [f])) ∧ Below W.heap.size W w') := fun W hb => Lib.hid (impl_fieldok f hf W (HCS.out.below hb))
    have HFS : ∀ W, Hid (Calls Tryd.prog 19 #[.int .u32 (f : Int)] W fun e w' => e = .returned (.bool (fieldsOk [f])) ∧ Below W.heap.size W w') := fun W => Lib.hid (spec_fieldok f hf W)
    have HUO : ∀ W, Below w.heap.size w W → Hid (Calls Tryd.prog 22 #[.int .u32 (f : Int)] W fun e w' => e = .returned (.string ⟨(unpOne f).toArray⟩) ∧ Below W.heap.size W w') := fun W hb => Lib.hid (impl_unpackone f hf W (HCS.out.below hb))
    have HPO : ∀ W, Below w.heap.size w W → Hid (Calls Tryd.prog 21 #[.string ⟨(unpOne f).toArray⟩] W fun e w' => e = .returned (.tuple #[.int .u32 ((pack1 (unpOne f)).1 : Int), .int .i64 ((pack1 (unpOne f)).2 : Int)]) ∧ Below W.heap.size W w') := fun W hb => Lib.hid (impl_packone ⟨(unpOne f).toArray⟩ (by have := unpOne_len f; show (unpOne f).length ≤ _; omega) W (HCS.out.below hb))
    have HONE : Hid (fieldsOk [f] = true → pack1 (unpOne f) = (f, (unpOne f).length)) := Lib.hid fieldsOk_one
    obtain ⟨u, hu⟩ : ∃ u : ByteArray, (⟨(unpOne f).toArray⟩ : ByteArray) = u := ⟨_, rfl⟩
    have hus : u.size = (unpOne f).length := by rw [← hu]; rfl
    have hu28 := unpOne_len f
    obtain ⟨m, hm⟩ : ∃ m, (unpOne f).length = m := ⟨_, rfl⟩
    obtain ⟨g, n, hgn⟩ : ∃ g n, pack1 (unpOne f) = (g, n) := ⟨_, _, rfl⟩
    obtain ⟨r, hrr⟩ : ∃ r, fieldsOk [f] = r := ⟨_, rfl⟩
    rw [hrr] at HFI HFS HONE
    rw [hu] at HUO HPO
    rw [hgn] at HPO HONE
    rw [hm] at HONE hus hu28
    have hqq : (q != q) = false := by cases q <;> rfl
    have hrb : (r != r) = false := by cases r <;> rfl
    clear hu hm hgn hrr hf hb4 HD
    go_wp2_with fail
    refine (HFI _ HB4.out).out.mono ?_
    rintro e w5 ⟨rfl, hb5⟩
    have HB5 := Lib.hid (HB4.out.trans (hb5.mono HB4.out.size))
    have HB15 := Lib.hid (HB14.out.trans (hb5.mono HB14.out.size))
    clear hb5
    go_wp2_with fail
    refine (HFS _).out.mono ?_
    rintro e w6 ⟨rfl, hb6⟩
    have HB6 := Lib.hid (HB5.out.trans (hb6.mono HB5.out.size))
    have HB16 := Lib.hid (HB15.out.trans (hb6.mono HB15.out.size))
    clear hb6
    cases q with
    | true =>
      obtain ⟨e1, e2⟩ := hback rfl
      have HP := impl_pack t (by omega) w6 (HCS.out.below HB6.out)
      rw [HTL.out, e1, e2] at HP
      have HP := Lib.hid HP
      clear hback hno e1 e2
      go_wp2_with fail
      refine HP.out.mono ?_
      rintro e w7 ⟨v7, rfl, ho7, hb7⟩
      have hE := samecells_any v7 v ls ls w7 (RdN.of_own ho7 (by omega)) ((HR1.out.below HB16.out).below hb7)
      rw [decide_eq_true rfl] at hE
      have HE := Lib.hid hE
      have HB7 := Lib.hid (HB6.out.trans (hb7.mono HB6.out.size))
      clear hE ho7 hb7 HP
      go_wp2_with fail
      refine HE.out.mono ?_
      rintro e w8 ⟨rfl, d, rfl⟩
      have HB8 := Lib.hid (below_drewN HB7.out d)
      clear HE
      go_wp2_with fail
      refine (HUO _ HB8.out).out.mono ?_
      rintro e w9 ⟨rfl, hb9⟩
      have HB9 := Lib.hid (HB8.out.trans (hb9.mono HB8.out.size))
      clear hb9
      go_wp2_with fail
      refine (HPO _ HB9.out).out.mono ?_
      rintro e w10 ⟨rfl, hb10⟩
      have HB10 := Lib.hid (HB9.out.trans (hb10.mono HB9.out.size))
      clear hb10
      go_wp2_with fail
      refine (HFI _ HB10.out).out.mono ?_
      rintro e w11 ⟨rfl, hb11⟩
      have HB11 := Lib.hid (HB10.out.trans (hb11.mono HB10.out.size))
      clear hb11
      cases r with
      | false =>
        go_wp2_with fail
        go_ret
        exact ⟨rfl, HB11.out⟩
      | true =>
        have e3 := HONE.out rfl
        injection e3 with e4 e5
        subst e4 e5
        have HUO := HUO _ HB11.out
        go_wp2_with fail
        refine HUO.out.mono ?_
        rintro e w12 ⟨rfl, hb12⟩
        have HB12 := Lib.hid (HB11.out.trans (hb12.mono HB11.out.size))
        clear hb12
        have hus2 : ((n : Int) == (u.size : Int)) = true := by rw [hus]; simp
        go_wp2_with fail
        go_ret
        exact ⟨rfl, HB12.out⟩
    | false =>
      have e1 := hno rfl
      have ht0 : t.toList.isEmpty = true := by rw [ByteArray.toList_eq, HTL.out, e1]; rfl
      clear hback hno e1
      go_wp2_with fail
      refine (HUO _ HB6.out).out.mono ?_
      rintro e w9 ⟨rfl, hb9⟩
      have HB9 := Lib.hid (HB6.out.trans (hb9.mono HB6.out.size))
      clear hb9
      go_wp2_with fail
      refine (HPO _ HB9.out).out.mono ?_
      rintro e w10 ⟨rfl, hb10⟩
      have HB10 := Lib.hid (HB9.out.trans (hb10.mono HB9.out.size))
      clear hb10
      go_wp2_with fail
      refine (HFI _ HB10.out).out.mono ?_
      rintro e w11 ⟨rfl, hb11⟩
      have HB11 := Lib.hid (HB10.out.trans (hb11.mono HB10.out.size))
      clear hb11
      cases r with
      | false =>
        go_wp2_with fail
        go_ret
        exact ⟨rfl, HB11.out⟩
      | true =>
        have e3 := HONE.out rfl
        injection e3 with e4 e5
        subst e4 e5
        have HUO := HUO _ HB11.out
        go_wp2_with fail
        refine HUO.out.mono ?_
        rintro e w12 ⟨rfl, hb12⟩
        have HB12 := Lib.hid (HB11.out.trans (hb12.mono HB11.out.size))
        clear hb12
        have hus2 : ((n : Int) == (u.size : Int)) = true := by rw [hus]; simp
        go_wp2_with fail
        go_ret
        exact ⟨rfl, HB12.out⟩
end Go.Proofs.YtaagaimafhadeaaDoor
