/-
  Unpack and FieldOk, of the program and of its model, tell the name whose fields a list is.
-/
import Derived.Test.YtaagaimafhadeaaDoorUnpOne
namespace Go.Proofs.YtaagaimafhadeaaDoor
open Go.RowKit Go

theorem str_app (t : ByteArray) (u : List UInt8) : (t ++ ⟨u.toArray⟩).data.toList = t.data.toList ++ u := by
  obtain ⟨d⟩ := t
  rw [ByteArray.mk_append_mk]
theorem str_back {t : ByteArray} {u : List UInt8} (h : t.data.toList = u) : t = ⟨u.toArray⟩ := by
  subst h
  obtain ⟨d⟩ := t
  simp
theorem unpAll_take {ls : List Nat} {i : Nat} (h : i < ls.length) : unpAll (ls.take (i + 1)) = unpAll (ls.take i) ++ unpOne ls[i] := by
  rw [List.take_succ_eq_append_getElem h, unpAll_append]
  show _ ++ (unpOne ls[i] ++ []) = _
  rw [List.append_nil]
theorem fieldsOk_long {ls : List Nat} (h : 24 < ls.length) : fieldsOk ls = false := by
  unfold fieldsOk
  rw [show decide (ls.length ≤ 24 ∧ packs (unpAll ls) = ls) = false from decide_eq_false fun h2 => by omega]
  rfl
theorem fieldsOk_nil : fieldsOk [] = false := by decide
theorem fieldsOk_eq {ls : List Nat} (h : ls.length ≤ 24) (h0 : ls ≠ []) : fieldsOk ls = decide (packs (unpAll ls) = ls) := by
  unfold fieldsOk
  rw [Bool.eq_iff_iff, Bool.and_eq_true]
  constructor
  · intro ⟨h1, _⟩
    exact decide_eq_true (of_decide_eq_true h1).2
  · intro h1
    have h2 := of_decide_eq_true h1
    refine ⟨decide_eq_true ⟨h, h2⟩, ?_⟩
    cases hn : nameL (unpAll ls) with
    | true => rfl
    | false => rw [packs_no hn] at h2; exact absurd h2.symm h0
theorem fieldsOk_name {ls : List Nat} (h : ls.length ≤ 24) : fieldsOk ls = (nameL (unpAll ls) && decide (packs (unpAll ls) = ls)) := by
  unfold fieldsOk
  rw [Bool.and_comm]
  congr 1
  rw [Bool.eq_iff_iff]
  simp [h]
theorem unpacked_no {ls : List Nat} (h : fieldsOk ls = false) : unpacked ls = [] := by unfold unpacked; rw [if_neg (by rw [h]; decide)]
theorem unpacked_yes {ls : List Nat} (h : fieldsOk ls = true) : unpacked ls = unpAll ls := by unfold unpacked; rw [if_pos h]
/-- What Unpack answers. -/
def UnpEnd (ls : List Nat) : Ending := .returned (.tuple #[.string ⟨(unpacked ls).toArray⟩, .bool (fieldsOk ls)])
theorem unpEnd_no {ls : List Nat} (h : fieldsOk ls = false) : UnpEnd ls = .returned (.tuple #[.string ⟨#[]⟩, .bool false]) := by unfold UnpEnd; rw [unpacked_no h, h]
theorem unpEnd_yes {ls : List Nat} {t : ByteArray} (h : fieldsOk ls = true) (ht : t.data.toList = unpAll ls) : UnpEnd ls = .returned (.tuple #[.string t, .bool true]) := by
  unfold UnpEnd
  rw [unpacked_yes h, h, str_back ht]

set_option maxHeartbeats 2000000 in
theorem impl_unpack (v : Value) (ls : List Nat) (hx : ∀ x ∈ ls, x < 4294967296) (w : World) (hv : RdN w v ls) (hcs : Codes w) :
    Calls Tryd.prog 14 #[v] w fun e w' => e = UnpEnd ls ∧ Below w.heap.size w w' := by
  have HV := Lib.hid hv
  obtain ⟨A, cap, rfl, hl62, hcell⟩ := hv
  by_cases h0 : ls = []
  · subst h0
    rw [unpEnd_no fieldsOk_nil]
    clear hcell hcs HV
    go_enter Tryd.func14, Tryd.ntmps14
    go_wp2_with fail
    go_ret2
    exact ⟨rfl, Below.refl _ _⟩
  · have hpos : 0 < ls.length := List.length_pos_iff.2 h0
    have hne : ((ls.length : Int) == 0) = false := by simp; exact h0
    by_cases h24 : 24 < ls.length
    · rw [unpEnd_no (fieldsOk_long h24)]
      clear hcell hcs HV h0
      go_enter Tryd.func14, Tryd.ntmps14
      go_wp2_with fail
      go_ret2
      exact ⟨rfl, Below.refl _ _⟩
    · have h24' : ls.length ≤ 24 := by omega
      have h24i : (ls.length : Int) ≤ 24 := by omega
      have HEQ := Lib.hid (fieldsOk_eq h24' h0)
      have HC := Lib.hid hcell
      have HCS := Lib.hid hcs
      have HX := Lib.hid hx
      clear hcell hcs h0 h24 hx
      go_enter Tryd.func14, Tryd.ntmps14
      go_wp2_with fail
      go_loopw [4, 17] (fun vt vi wr => ∃ (i : Nat) (t : ByteArray), vi = .int .i64 i ∧ i ≤ ls.length ∧ vt = .string t ∧ Hid (t.data.toList = unpAll (ls.take i)) ∧ Below w.heap.size w wr) (fun _ vi _ => ls.length - (intOf vi).toNat)
      case atStart => exact ⟨0, ⟨#[]⟩, rfl, by omega, rfl, Lib.hid rfl, Below.refl _ _⟩
      case round =>
        obtain ⟨i, t, rfl, hi, rfl, HT, hB⟩ := hrel
        by_cases hp : i < ls.length
        · obtain ⟨a, rfl, hal, hc⟩ := HC.out i hp
          have hc2 : wr.cell? (a.add i) = some (.int .u32 (ls[i] : Int)) := (hB.cell (by rw [addr_addb]; exact hal)).trans hc
          have HU := impl_unpackone ls[i] (HX.out _ (List.getElem_mem hp)) wr (HCS.out.below hB)
          have HT2 := Lib.hid ((str_app t (unpOne ls[i])).trans (by rw [HT.out, ← unpAll_take hp]))
          obtain ⟨x, hxx⟩ : ∃ x, ls[i] = x := ⟨_, rfl⟩
          have htz := unpAll_len (ls.take i)
          rw [← HT.out, List.length_take] at htz
          have hts : t.size ≤ 672 := by have : t.data.toList.length = t.size := rfl; omega
          have hus : (⟨(unpOne ls[i]).toArray⟩ : ByteArray).size ≤ 28 := unpOne_len ls[i]
          obtain ⟨u, hu⟩ : ∃ u : ByteArray, (⟨(unpOne ls[i]).toArray⟩ : ByteArray) = u := ⟨_, rfl⟩
          rw [hu] at HU HT2 hus
          clear htz
          rw [hxx] at HU hc2
          have HU := Lib.hid HU
          have i2 : (i : Int) < (ls.length : Int) := by omega
          clear hxx hu hc hal
          go_wp2_with fail
          refine HU.out.mono ?_
          rintro e w2 ⟨rfl, hb2⟩
          have HB2 := Lib.hid (hB.trans (hb2.mono hB.size))
          clear hb2 hB
          go_wp2_with fail
          go_roundw
          case rel => exact ⟨i + 1, _, by go_num, by omega, rfl, HT2, HB2.out⟩
          case measure => simp [intOf]; omega
        · obtain rfl : i = ls.length := by omega
          have ht : t.data.toList = unpAll ls := by have := HT.out; rw [List.take_length] at this; exact this
          have hts : t.size = (unpAll ls).length := by rw [← ht]; rfl
          have hul := unpAll_len ls
          have HP := impl_pack t (by omega) wr (HCS.out.below hB)
          rw [ht] at HP
          have HP := Lib.hid HP
          have HB := Lib.hid hB
          have HTT := Lib.hid ht
          have hpl := (packs_len (unpAll ls)).2
          clear ht hts hul hB
          go_wp2_with fail
          refine HP.out.mono ?_
          rintro e w2 ⟨v2, rfl, ho2, hb2⟩
          have HE := Lib.hid (slequal_any v2 _ _ ls w2 (RdN.of_own ho2 (by omega)) ((HV.out.below HB.out).below hb2))
          have HB2 := Lib.hid (HB.out.trans (hb2.mono HB.out.size))
          clear hb2 ho2
          go_wp2_with fail
          refine HE.out.mono ?_
          rintro e w3 ⟨rfl, d, rfl⟩
          by_cases hq : packs (unpAll ls) = ls
          · have hd : decide (packs (unpAll ls) = ls) = true := decide_eq_true hq
            have HU := Lib.hid (unpEnd_yes (HEQ.out.trans hd) HTT.out)
            rw [hd]
            clear hq hd
            go_wp2_with fail
            go_ret2
            exact ⟨HU.out.symm, below_drewN HB2.out d⟩
          · have hd : decide (packs (unpAll ls) = ls) = false := decide_eq_false hq
            have HU := Lib.hid (unpEnd_no (HEQ.out.trans hd))
            rw [hd]
            clear hq hd
            go_wp2_with fail
            go_ret2
            exact ⟨HU.out.symm, below_drewN HB2.out d⟩

set_option maxHeartbeats 2000000 in
theorem spec_unpack (v : Value) (ls : List Nat) (hx : ∀ x ∈ ls, x < 4294967296) (w : World) (hv : RdN w v ls) :
    Calls Tryd.prog 17 #[v] w fun e w' => e = UnpEnd ls ∧ Below w.heap.size w w' := by
  have HV := Lib.hid hv
  obtain ⟨A, cap, rfl, hl62, hcell⟩ := hv
  by_cases h24 : 24 < ls.length
  · rw [unpEnd_no (fieldsOk_long h24)]
    clear hcell HV
    go_enter Tryd.func17, Tryd.ntmps17
    go_wp2_with fail
    go_ret2
    exact ⟨rfl, Below.refl _ _⟩
  · have h24' : ls.length ≤ 24 := by omega
    have h24i : (ls.length : Int) ≤ 24 := by omega
    have HEQ := Lib.hid (fieldsOk_name h24')
    have HC := Lib.hid hcell
    have HX := Lib.hid hx
    clear hcell h24 hx
    go_enter Tryd.func17, Tryd.ntmps17
    go_wp2_with fail
    go_loopw [4, 5] (fun vt vi wr => ∃ (i : Nat) (t : ByteArray), vi = .int .i64 i ∧ i ≤ ls.length ∧ vt = .string t ∧ Hid (t.data.toList = unpAll (ls.take i)) ∧ Below w.heap.size w wr) (fun _ vi _ => ls.length - (intOf vi).toNat)
    case atStart => exact ⟨0, ⟨#[]⟩, rfl, by omega, rfl, Lib.hid rfl, Below.refl _ _⟩
    case round =>
      obtain ⟨i, t, rfl, hi, rfl, HT, hB⟩ := hrel
      by_cases hp : i < ls.length
      · obtain ⟨a, rfl, hal, hc⟩ := HC.out i hp
        have hc2 : wr.cell? (a.add i) = some (.int .u32 (ls[i] : Int)) := (hB.cell (by rw [addr_addb]; exact hal)).trans hc
        have HU := spec_unpackone ls[i] (HX.out _ (List.getElem_mem hp)) wr
        have HT2 := Lib.hid ((str_app t (unpOne ls[i])).trans (by rw [HT.out, ← unpAll_take hp]))
        obtain ⟨x, hxx⟩ : ∃ x, ls[i] = x := ⟨_, rfl⟩
        have htz := unpAll_len (ls.take i)
        rw [← HT.out, List.length_take] at htz
        have hts : t.size ≤ 672 := by have : t.data.toList.length = t.size := rfl; omega
        have hus : (⟨(unpOne ls[i]).toArray⟩ : ByteArray).size ≤ 28 := unpOne_len ls[i]
        obtain ⟨u, hu⟩ : ∃ u : ByteArray, (⟨(unpOne ls[i]).toArray⟩ : ByteArray) = u := ⟨_, rfl⟩
        rw [hu] at HU HT2 hus
        clear htz
        rw [hxx] at HU hc2
        have HU := Lib.hid HU
        have i2 : (i : Int) < (ls.length : Int) := by omega
        clear hxx hu hc hal
        go_wp2_with fail
        refine HU.out.mono ?_
        rintro e w2 ⟨rfl, hb2⟩
        have HB2 := Lib.hid (hB.trans (hb2.mono hB.size))
        clear hb2 hB
        go_wp2_with fail
        go_roundw
        case rel => exact ⟨i + 1, _, by go_num, by omega, rfl, HT2, HB2.out⟩
        case measure => simp [intOf]; omega
      · obtain rfl : i = ls.length := by omega
        have ht : t.data.toList = unpAll ls := by have := HT.out; rw [List.take_length] at this; exact this
        have hts : t.size = (unpAll ls).length := by rw [← ht]; rfl
        have hul := unpAll_len ls
        have HN := spec_nameok t (by omega) wr
        rw [nameOk_list, ht] at HN
        have HP := spec_pack t (by omega) wr
        rw [ht] at HP
        have HP := Lib.hid HP
        have HN := Lib.hid HN
        have HB := Lib.hid hB
        have HTT := Lib.hid ht
        have hpl := (packs_len (unpAll ls)).2
        clear ht hts hul hB
        cases hn : nameL (unpAll ls) with
        | false =>
          have HU := Lib.hid (unpEnd_no (HEQ.out.trans (by rw [hn]; rfl)))
          rw [hn] at HN
          clear hn
          go_wp2_with fail
          refine HN.out.mono ?_
          rintro e w2 ⟨rfl, rfl⟩
          go_wp2_with fail
          go_ret2
          exact ⟨HU.out.symm, HB.out⟩
        | true =>
          have HEQ2 := Lib.hid (HEQ.out.trans (by rw [hn, Bool.true_and]))
          rw [hn] at HN
          clear hn
          go_wp2_with fail
          refine HN.out.mono ?_
          rintro e w2 ⟨rfl, rfl⟩
          go_wp2_with fail
          refine HP.out.mono ?_
          rintro e w2 ⟨v2, rfl, ho2, hb2⟩
          have HE := Lib.hid (l03same_any v2 _ _ ls w2 (RdN.of_own ho2 (by omega)) ((HV.out.below HB.out).below hb2))
          have HB2 := Lib.hid (HB.out.trans (hb2.mono HB.out.size))
          clear hb2 ho2
          go_wp2_with fail
          refine HE.out.mono ?_
          rintro e w3 ⟨rfl, d, rfl⟩
          by_cases hq : packs (unpAll ls) = ls
          · have hd : decide (packs (unpAll ls) = ls) = true := decide_eq_true hq
            have HU := Lib.hid (unpEnd_yes (HEQ2.out.trans hd) HTT.out)
            rw [hd]
            clear hq hd
            go_wp2_with fail
            go_ret2
            exact ⟨HU.out.symm, below_drewN HB2.out d⟩
          · have hd : decide (packs (unpAll ls) = ls) = false := decide_eq_false hq
            have HU := Lib.hid (unpEnd_no (HEQ2.out.trans hd))
            rw [hd]
            clear hq hd
            go_wp2_with fail
            go_ret2
            exact ⟨HU.out.symm, below_drewN HB2.out d⟩
end Go.Proofs.YtaagaimafhadeaaDoor
