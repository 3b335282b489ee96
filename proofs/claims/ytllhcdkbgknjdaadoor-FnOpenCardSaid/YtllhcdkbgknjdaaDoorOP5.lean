/-
  Unpack and FieldOk, of the program and of its model, tell the name whose fields a list is.
  How many cells may hold a name; the name that stands in cells.
  What would have to stand first, by the first tag.
-/
import Derived.Test.YtllhcdkbgknjdaaDoorOP4
namespace Go.Proofs.YtllhcdkbgknjdaaDoor
open Go.RowKit Go

theorem str_app (t : ByteArray) (u : List UInt8) : (t ++ ⟨u.toArray⟩).data.toList = t.data.toList ++ u := by
  obtain ⟨d⟩ := t
  rw [ByteArray.mk_append_mk]
theorem str_back {t : ByteArray} {u : List UInt8} (h : t.data.toList = u) : t = ⟨u.toArray⟩ := by
  subst h
  obtain ⟨d⟩ := t
  simp
theorem unpAll_take {ls : List Nat} {i : Nat} (h : i < ls.length) : unpAll (ls.take (i + 1)) = unpAll (ls.take i) ++ unpOne ls[i] := by
  rw [List.take_succ_eq_append_getElem h, unpAll_append]
  show _ ++ (unpOne ls[i] ++ []) = _
  rw [List.append_nil]
theorem fieldsOk_long {ls : List Nat} (h : 24 < ls.length) : fieldsOk ls = false := by
  unfold fieldsOk
  rw [show decide (ls.length ≤ 24 ∧ packs (unpAll ls) = ls) = false from decide_eq_false fun h2 => by omega]
  rfl
theorem fieldsOk_nil : fieldsOk [] = false := by decide
theorem fieldsOk_eq {ls : List Nat} (h : ls.length ≤ 24) (h0 : ls ≠ []) : fieldsOk ls = decide (packs (unpAll ls) = ls) := by
  unfold fieldsOk
  rw [Bool.eq_iff_iff, Bool.and_eq_true]
  constructor
  · intro ⟨h1, _⟩
    exact decide_eq_true (of_decide_eq_true h1).2
  · intro h1
    have h2 := of_decide_eq_true h1
    refine ⟨decide_eq_true ⟨h, h2⟩, ?_⟩
    cases hn : nameL (unpAll ls) with
    | true => rfl
    | false => rw [packs_no hn] at h2; exact absurd h2.symm h0
theorem fieldsOk_name {ls : List Nat} (h : ls.length ≤ 24) : fieldsOk ls = (nameL (unpAll ls) && decide (packs (unpAll ls) = ls)) := by
  unfold fieldsOk
  rw [Bool.and_comm]
  congr 1
  rw [Bool.eq_iff_iff]
  simp [h]
theorem unpacked_no {ls : List Nat} (h : fieldsOk ls = false) : unpacked ls = [] := by unfold unpacked; rw [if_neg (by rw [h]; decide)]
theorem unpacked_yes {ls : List Nat} (h : fieldsOk ls = true) : unpacked ls = unpAll ls := by unfold unpacked; rw [if_pos h]
/-- What Unpack answers. -/
def UnpEnd (ls : List Nat) : Ending := .returned (.tuple #[.string ⟨(unpacked ls).toArray⟩, .bool (fieldsOk ls)])
theorem unpEnd_no {ls : List Nat} (h : fieldsOk ls = false) : UnpEnd ls = .returned (.tuple #[.string ⟨#[]⟩, .bool false]) := by unfold UnpEnd; rw [unpacked_no h, h]
theorem unpEnd_yes {ls : List Nat} {t : ByteArray} (h : fieldsOk ls = true) (ht : t.data.toList = unpAll ls) : UnpEnd ls = .returned (.tuple #[.string t, .bool true]) := by
  unfold UnpEnd
  rw [unpacked_yes h, h, str_back ht]

set_option maxRecDepth 100000 in
set_option maxHeartbeats 2000000 in
theorem impl_unpack (v : Value) (ls : List Nat) (hx : ∀ x ∈ ls, x < 4294967296) (w : World) (hv : RdN w v ls) (hcs : Codes w) :
    Calls Tryd.prog 91 #[v] w fun e w' => e = UnpEnd ls ∧ Below w.heap.size w w' := by
  have HV := Lib.hid hv
  obtain ⟨A, cap, rfl, hl62, hcell⟩ := hv
  by_cases h0 : ls = []
  · subst h0
    rw [unpEnd_no fieldsOk_nil]
    clear hcell hcs HV
    go_enter Tryd.func91, Tryd.ntmps91
    go_wp2_with fail
    go_ret2
    exact ⟨rfl, Below.refl _ _⟩
  · have hpos : 0 < ls.length := List.length_pos_iff.2 h0
    have hne : ((ls.length : Int) == 0) = false := by simp; exact h0
    by_cases h24 : 24 < ls.length
    · rw [unpEnd_no (fieldsOk_long h24)]
      clear hcell hcs HV h0
      go_enter Tryd.func91, Tryd.ntmps91
      go_wp2_with fail
      go_ret2
      exact ⟨rfl, Below.refl _ _⟩
    · have h24' : ls.length ≤ 24 := by omega
      have h24i : (ls.length : Int) ≤ 24 := by omega
      have HEQ := Lib.hid (fieldsOk_eq h24' h0)
      have HC := Lib.hid hcell
      have HCS := Lib.hid hcs
      have HX := Lib.hid hx
      clear hcell hcs h0 h24 hx
      go_enter Tryd.func91, Tryd.ntmps91
      go_wp2_with fail
      go_loopw [4, 17] (fun vt vi wr => ∃ (i : Nat) (t : ByteArray), vi = .int .i64 i ∧ i ≤ ls.length ∧ vt = .string t ∧ Hid (t.data.toList = unpAll (ls.take i)) ∧ Below w.heap.size w wr) (fun _ vi _ => ls.length - (intOf vi).toNat)
      case atStart => exact ⟨0, ⟨#[]⟩, rfl, by omega, rfl, Lib.hid rfl, Below.refl _ _⟩
      case round =>
        obtain ⟨i, t, rfl, hi, rfl, HT, hB⟩ := hrel
        by_cases hp : i < ls.length
        · obtain ⟨a, rfl, hal, hc⟩ := HC.out i hp
          have hc2 : wr.cell? (a.add i) = some (.int .u32 (ls[i] : Int)) := (hB.cell (by rw [addr_addb]; exact hal)).trans hc
          have HU := impl_unpackone ls[i] (HX.out _ (List.getElem_mem hp)) wr (HCS.out.below hB)
          have HT2 := Lib.hid ((str_app t (unpOne ls[i])).trans (by rw [HT.out, ← unpAll_take hp]))
          obtain ⟨x, hxx⟩ : ∃ x, ls[i] = x := ⟨_, rfl⟩
          have htz := unpAll_len (ls.take i)
          rw [← HT.out, List.length_take] at htz
          have hts : t.size ≤ 672 := by have : t.data.toList.length = t.size := rfl; omega
          have hus : (⟨(unpOne ls[i]).toArray⟩ : ByteArray).size ≤ 28 := unpOne_len ls[i]
          obtain ⟨u, hu⟩ : ∃ u : ByteArray, (⟨(unpOne ls[i]).toArray⟩ : ByteArray) = u := ⟨_, rfl⟩
          rw [hu] at HU HT2 hus
          clear htz
          rw [hxx] at HU hc2
          have HU := Lib.hid HU
          have i2 : (i : Int) < (ls.length : Int) := by omega
          clear hxx hu hc hal
          go_wp2_with fail
          refine HU.out.mono ?_
          rintro e w2 ⟨rfl, hb2⟩
          have HB2 := Lib.hid (hB.trans (hb2.mono hB.size))
          clear hb2 hB
          go_wp2_with fail
          go_roundw
          case rel => exact ⟨i + 1, _, by go_num, by omega, rfl, HT2, HB2.out⟩
          case measure => simp [intOf]; omega
        · obtain rfl : i = ls.length := by omega
          have ht : t.data.toList = unpAll ls := by have := HT.out; rw [List.take_length] at this; exact this
          have hts : t.size = (unpAll ls).length := by rw [← ht]; rfl
          have hul := unpAll_len ls
          have HP := impl_pack t (by omega) wr (HCS.out.below hB)
          rw [ht] at HP
          have HP := Lib.hid HP
          have HB := Lib.hid hB
          have HTT := Lib.hid ht
          have hpl := (packs_len (unpAll ls)).2
          clear ht hts hul hB
          go_wp2_with fail
          refine HP.out.mono ?_
          rintro e w2 ⟨v2, rfl, ho2, hb2⟩
          have HE := Lib.hid (slequal_any v2 _ _ ls w2 (RdN.of_own ho2 (by omega)) ((HV.out.below HB.out).below hb2))
          have HB2 := Lib.hid (HB.out.trans (hb2.mono HB.out.size))
          clear hb2 ho2
          go_wp2_with fail
          refine HE.out.mono ?_
          rintro e w3 ⟨rfl, d, rfl⟩
          by_cases hq : packs (unpAll ls) = ls
          · have hd : decide (packs (unpAll ls) = ls) = true := decide_eq_true hq
            have HU := Lib.hid (unpEnd_yes (HEQ.out.trans hd) HTT.out)
            rw [hd]
            clear hq hd
            go_wp2_with fail
            go_ret2
            exact ⟨HU.out.symm, below_drewN HB2.out d⟩
          · have hd : decide (packs (unpAll ls) = ls) = false := decide_eq_false hq
            have HU := Lib.hid (unpEnd_no (HEQ.out.trans hd))
            rw [hd]
            clear hq hd
            go_wp2_with fail
            go_ret2
            exact ⟨HU.out.symm, below_drewN HB2.out d⟩

set_option maxRecDepth 100000 in
set_option maxHeartbeats 2000000 in
theorem spec_unpack (v : Value) (ls : List Nat) (hx : ∀ x ∈ ls, x < 4294967296) (w : World) (hv : RdN w v ls) :
    Calls Tryd.prog 85 #[v] w fun e w' => e = UnpEnd ls ∧ Below w.heap.size w w' := by
  have HV := Lib.hid hv
  obtain ⟨A, cap, rfl, hl62, hcell⟩ := hv
  by_cases h24 : 24 < ls.length
  · rw [unpEnd_no (fieldsOk_long h24)]
    clear hcell HV
    go_enter Tryd.func85, Tryd.ntmps85
    go_wp2_with fail
    go_ret2
    exact ⟨rfl, Below.refl _ _⟩
  · have h24' : ls.length ≤ 24 := by omega
    have h24i : (ls.length : Int) ≤ 24 := by omega
    have HEQ := Lib.hid (fieldsOk_name h24')
    have HC := Lib.hid hcell
    have HX := Lib.hid hx
    clear hcell h24 hx
    go_enter Tryd.func85, Tryd.ntmps85
    go_wp2_with fail
    go_loopw [4, 5] (fun vt vi wr => ∃ (i : Nat) (t : ByteArray), vi = .int .i64 i ∧ i ≤ ls.length ∧ vt = .string t ∧ Hid (t.data.toList = unpAll (ls.take i)) ∧ Below w.heap.size w wr) (fun _ vi _ => ls.length - (intOf vi).toNat)
    case atStart => exact ⟨0, ⟨#[]⟩, rfl, by omega, rfl, Lib.hid rfl, Below.refl _ _⟩
    case round =>
      obtain ⟨i, t, rfl, hi, rfl, HT, hB⟩ := hrel
      by_cases hp : i < ls.length
      · obtain ⟨a, rfl, hal, hc⟩ := HC.out i hp
        have hc2 : wr.cell? (a.add i) = some (.int .u32 (ls[i] : Int)) := (hB.cell (by rw [addr_addb]; exact hal)).trans hc
        have HU := spec_unpackone ls[i] (HX.out _ (List.getElem_mem hp)) wr
        have HT2 := Lib.hid ((str_app t (unpOne ls[i])).trans (by rw [HT.out, ← unpAll_take hp]))
        obtain ⟨x, hxx⟩ : ∃ x, ls[i] = x := ⟨_, rfl⟩
        have htz := unpAll_len (ls.take i)
        rw [← HT.out, List.length_take] at htz
        have hts : t.size ≤ 672 := by have : t.data.toList.length = t.size := rfl; omega
        have hus : (⟨(unpOne ls[i]).toArray⟩ : ByteArray).size ≤ 28 := unpOne_len ls[i]
        obtain ⟨u, hu⟩ : ∃ u : ByteArray, (⟨(unpOne ls[i]).toArray⟩ : ByteArray) = u := ⟨_, rfl⟩
        rw [hu] at HU HT2 hus
        clear htz
        rw [hxx] at HU hc2
        have HU := Lib.hid HU
        have i2 : (i : Int) < (ls.length : Int) := by omega
        clear hxx hu hc hal
        go_wp2_with fail
        refine HU.out.mono ?_
        rintro e w2 ⟨rfl, hb2⟩
        have HB2 := Lib.hid (hB.trans (hb2.mono hB.size))
        clear hb2 hB
        go_wp2_with fail
        go_roundw
        case rel => exact ⟨i + 1, _, by go_num, by omega, rfl, HT2, HB2.out⟩
        case measure => simp [intOf]; omega
      · obtain rfl : i = ls.length := by omega
        have ht : t.data.toList = unpAll ls := by have := HT.out; rw [List.take_length] at this; exact this
        have hts : t.size = (unpAll ls).length := by rw [← ht]; rfl
        have hul := unpAll_len ls
        have HN := spec_nameok t (by omega) wr
        rw [nameOk_list, ht] at HN
        have HP := spec_pack t (by omega) wr
        rw [ht] at HP
        have HP := Lib.hid HP
        have HN := Lib.hid HN
        have HB := Lib.hid hB
        have HTT := Lib.hid ht
        have hpl := (packs_len (unpAll ls)).2
        clear ht hts hul hB
        cases hn : nameL (unpAll ls) with
        | false =>
          have HU := Lib.hid (unpEnd_no (HEQ.out.trans (by rw [hn]; rfl)))
          rw [hn] at HN
          clear hn
          go_wp2_with fail
          refine HN.out.mono ?_
          rintro e w2 ⟨rfl, rfl⟩
          go_wp2_with fail
          go_ret2
          exact ⟨HU.out.symm, HB.out⟩
        | true =>
          have HEQ2 := Lib.hid (HEQ.out.trans (by rw [hn, Bool.true_and]))
          rw [hn] at HN
          clear hn
          go_wp2_with fail
          refine HN.out.mono ?_
          rintro e w2 ⟨rfl, rfl⟩
          go_wp2_with fail
          refine HP.out.mono ?_
          rintro e w2 ⟨v2, rfl, ho2, hb2⟩
          have HE := Lib.hid (l03same_any v2 _ _ ls w2 (RdN.of_own ho2 (by omega)) ((HV.out.below HB.out).below hb2))
          have HB2 := Lib.hid (HB.out.trans (hb2.mono HB.out.size))
          clear hb2 ho2
          go_wp2_with fail
          refine HE.out.mono ?_
          rintro e w3 ⟨rfl, d, rfl⟩
          by_cases hq : packs (unpAll ls) = ls
          · have hd : decide (packs (unpAll ls) = ls) = true := decide_eq_true hq
            have HU := Lib.hid (unpEnd_yes (HEQ2.out.trans hd) HTT.out)
            rw [hd]
            clear hq hd
            go_wp2_with fail
            go_ret2
            exact ⟨HU.out.symm, below_drewN HB2.out d⟩
          · have hd : decide (packs (unpAll ls) = ls) = false := decide_eq_false hq
            have HU := Lib.hid (unpEnd_no (HEQ2.out.trans hd))
            rw [hd]
            clear hq hd
            go_wp2_with fail
            go_ret2
            exact ⟨HU.out.symm, below_drewN HB2.out d⟩
end Go.Proofs.YtllhcdkbgknjdaaDoor

namespace Go.Proofs.YtllhcdkbgknjdaaDoor
open Go.RowKit Go

theorem and15 {x : Nat} (h : x < 4294967296) : bits .and .u32 (x : Int) 15 = ((x % 16 : Nat) : Int) := by
  have e : bits .and .u32 (x : Int) 15 = IntKind.u32.wrap ((BitVec.ofInt 32 (x : Int) &&& BitVec.ofInt 32 15).toNat : Int) := rfl
  have h1 : (BitVec.ofInt 32 (x : Int)).toNat = x := by rw [BitVec.toNat_ofInt]; simp; omega
  have h2 : (BitVec.ofInt 32 15).toNat = 15 := by decide
  rw [e, IntKind.wrap_u32, BitVec.toNat_and, h1, h2, show (15 : Nat) = 2 ^ 4 - 1 from rfl, Nat.and_two_pow_sub_one_eq_mod]
  omega
theorem and16 {x : Nat} (h : x < 4294967296) : (bits .and .u32 (x : Int) 16 != 0) = decide (x / 16 % 2 = 1) := by
  have e : bits .and .u32 (x : Int) 16 = IntKind.u32.wrap ((BitVec.ofInt 32 (x : Int) &&& BitVec.ofInt 32 16).toNat : Int) := rfl
  have h1 : (BitVec.ofInt 32 (x : Int)).toNat = x := by rw [BitVec.toNat_ofInt]; simp; omega
  have h2 : (BitVec.ofInt 32 16).toNat = 16 := by decide
  have h3 : x &&& 16 = (x % 32) &&& 16 := by
    rw [show (32 : Nat) = 2 ^ 5 from rfl, ← Nat.and_two_pow_sub_one_eq_mod, Nat.and_assoc]
    rfl
  have h4 : ∀ y : Nat, y < 32 → (((y &&& 16 : Nat) : Int) % 4294967296 != 0) = decide (y / 16 % 2 = 1) := by decide
  rw [e, IntKind.wrap_u32, BitVec.toNat_and, h1, h2, h3, h4 (x % 32) (by omega), show x % 32 / 16 % 2 = x / 16 % 2 by omega]

/-- Where the walk over a name's cells stands. -/
def SpanAt (xs : List Nat) (i : Nat) : Prop := spanC xs = i + ((xs.drop i).takeWhile moreC).length
theorem SpanAt.start {xs : List Nat} (h : xs ≠ []) : SpanAt xs 1 := by
  cases xs with
  | nil => exact absurd rfl h
  | cons a r => simp [SpanAt, spanC]
theorem SpanAt.next {xs : List Nat} {i : Nat} (h : SpanAt xs i) (hi : i < xs.length) (hm : moreC xs[i] = true) : SpanAt xs (i + 1) := by
  unfold SpanAt at h ⊢
  rw [h, List.drop_eq_getElem_cons hi, List.takeWhile_cons, if_pos hm, List.length_cons]
  omega
theorem SpanAt.stop {xs : List Nat} {i : Nat} (h : SpanAt xs i) (hi : i < xs.length) (hm : moreC xs[i] = false) : spanC xs = i := by
  unfold SpanAt at h
  rw [h, List.drop_eq_getElem_cons hi, List.takeWhile_cons, if_neg (by rw [hm]; decide)]
  rfl
theorem SpanAt.done {xs : List Nat} {i : Nat} (h : SpanAt xs i) (hi : xs.length ≤ i) : spanC xs = i := by
  unfold SpanAt at h
  rw [h, List.drop_eq_nil_of_le hi]
  rfl

set_option maxRecDepth 100000 in
set_option maxHeartbeats 2000000 in
theorem namespan_any (v : Value) (xs : List Nat) (hx : ∀ x ∈ xs, x < 4294967296) (h0 : xs ≠ []) (w : World) (hv : RdN w v xs) :
    Calls Tryd.prog 80 #[v] w fun e w' => e = .returned (.int .i64 (spanC xs : Int)) ∧ w = w' := by
  obtain ⟨A, cap, rfl, hl62, hcell⟩ := hv
  have HC := Lib.hid hcell
  have HX := Lib.hid hx
  obtain ⟨s, hs⟩ : ∃ s, spanC xs = s := ⟨_, rfl⟩
  have HS := Lib.hid hs
  have HST := Lib.hid (SpanAt.start h0)
  have hpos : 1 ≤ xs.length := List.length_pos_iff.2 h0
  rw [hs]
  clear hcell hx h0 hs
  go_enter Tryd.func80, Tryd.ntmps80
  go_wp2_with fail
  go_loop [3] (fun vi => ∃ i : Nat, vi = .int .i64 i ∧ 1 ≤ i ∧ i ≤ xs.length ∧ Hid (SpanAt xs i)) (fun vi => xs.length - (intOf vi).toNat)
  case atStart => exact ⟨1, rfl, by omega, hpos, HST⟩
  case round =>
    obtain ⟨i, rfl, hi1, hi, HA⟩ := hrel
    by_cases hp : i < xs.length
    · obtain ⟨a, rfl, -, hc⟩ := HC.out i hp
      have hx4 := HX.out _ (List.getElem_mem hp)
      have HN := Lib.hid (fun h => HA.out.next hp h)
      have HE := Lib.hid (fun h => HA.out.stop hp h)
      have ha15 := and15 hx4
      obtain ⟨x, hxx⟩ : ∃ x, xs[i] = x := ⟨_, rfl⟩
      rw [hxx] at hc HN HE ha15 hx4
      change w.cell? (a.add i) = some (.int .u32 (x : Int)) at hc
      have i2 : (i : Int) < (xs.length : Int) := by omega
      have i1 : (0 : Int) ≤ (i : Int) := by omega
      clear hxx
      by_cases hz : x = 0
      · have b1 : ((x : Int) != 0) = false := by simp [hz]
        have hq := HE.out (by unfold moreC; exact decide_eq_false (fun h => h.1 hz))
        rw [HS.out] at hq
        subst hq
        clear hz ha15
        go_wp2_with fail
        go_ret
        exact ⟨rfl, rfl⟩
      · have b1 : ((x : Int) != 0) = true := u32_bne (b := 0) hz
        by_cases hm : x % 16 = 0
        · have b2 : (bits .and .u32 (x : Int) 15 == 0) = true := by rw [ha15, hm]; rfl
          have HA2 := Lib.hid (HN.out (by unfold moreC; exact decide_eq_true ⟨hz, hm⟩))
          clear hz hm ha15
          go_wp2_with fail
          go_round
          case rel => exact ⟨i + 1, by go_num, by omega, by omega, HA2⟩
          case measure => simp [intOf]; omega
        · have b2 : (bits .and .u32 (x : Int) 15 == 0) = false := by rw [ha15]; exact u32_ne (b := 0) hm
          have hq := HE.out (by unfold moreC; exact decide_eq_false (fun h => hm h.2))
          rw [HS.out] at hq
          subst hq
          clear hz hm ha15
          go_wp2_with fail
          go_ret
          exact ⟨rfl, rfl⟩
    · obtain rfl : i = xs.length := by omega
      have hq := HA.out.done (Nat.le_refl _)
      rw [HS.out] at hq
      subst hq
      go_wp2_with fail
      go_ret
      exact ⟨rfl, rfl⟩

theorem div_take {xs : List Nat} {i : Nat} (h : i < xs.length) : (xs.take (i + 1)).map (· / 16) = (xs.take i).map (· / 16) ++ [xs[i] / 16] := by
  rw [List.take_succ_eq_append_getElem h, List.map_append]
  rfl

set_option maxRecDepth 100000 in
set_option maxHeartbeats 4000000 in
theorem namein_any (v : Value) (xs : List Nat) (hx : ∀ x ∈ xs, x < 4294967296) (hl : xs.length ≤ 64) (w : World) (hv : RdN w v xs) (hcs : Codes w) :
    Calls Tryd.prog 81 #[v] w fun e w' => e = .returned (.string ⟨(unpacked (xs.map (· / 16))).toArray⟩) ∧ Below w.heap.size w w' := by
  obtain ⟨i0, hi0, hz0, hz1, hz2⟩ := info_parts infoU32
  obtain ⟨A, cap, rfl, hl62, hcell⟩ := hv
  have HC := Lib.hid hcell
  have HX := Lib.hid hx
  have HCS := Lib.hid hcs
  clear hcell hx hcs
  go_enter Tryd.func81, Tryd.ntmps81
  go_wp2_with fail
  go_loopw [3, 10] (fun vo vi wr => ∃ i : Nat, vi = .int .i64 i ∧ i ≤ xs.length ∧ wr.ownsRow w.heap.size 51 1 vo ((xs.take i).map (· / 16)).length (((xs.take i).map (· / 16)).map u32v) ∧ Below w.heap.size w wr) (fun _ vi _ => xs.length - (intOf vi).toNat)
  case atStart => exact ⟨0, rfl, by omega, World.ownsRow_nil _ _ _ _, Below.refl _ _⟩
  case round =>
    obtain ⟨i, rfl, hi, hown, hB⟩ := hrel
    by_cases hp : i < xs.length
    · obtain ⟨a, rfl, hal, hc⟩ := HC.out i hp
      have hc2 : wr.cell? (a.add i) = some (.int .u32 (xs[i] : Int)) := (hB.cell (by rw [addr_addb]; exact hal)).trans hc
      have hx4 := HX.out _ (List.getElem_mem hp)
      have HD := Lib.hid (div_take hp)
      have i2 : (i : Int) < (xs.length : Int) := by omega
      have hle : ((xs.take i).map (· / 16)).length ≤ 64 := by rw [List.length_map, List.length_take]; omega
      obtain ⟨x, hxx⟩ : ∃ x, xs[i] = x := ⟨_, rfl⟩
      rw [hxx] at hc2 hx4 HD
      obtain ⟨pre, hpre⟩ : ∃ pre, (xs.take i).map (· / 16) = pre := ⟨_, rfl⟩
      rw [hpre] at hown hle HD
      have HSH : Hid (Value.int IntKind.u32 ((x : Int) / 16) = u32v (x / 16)) := Lib.hid (by unfold u32v; congr 1)
      clear hxx hpre hc hal
      go_wp2_with (at_builtin; refine wpList_append_own _ rfl _ _ 24 rfl w.heap.size 51 i0 (.int .u32 0) 1 4 Tryd.underlying24 hi0 hz0 hz1 hz2 rfl (by decide) _ _ _ rfl (hown.alloc _) ⟨wr.heap.size, 0, none⟩ 1 1 [.int .u32 ((x : Int) / 16)] rfl rfl (cell_one_new _ _ _) (by simp [Value.oneCell']) (by unfold maxLen; omega) (by omega) (by have := hB.size; simp; omega) ?_; intro v' w1 hown' hgrow _)
      go_roundw
      case rel => exact ⟨i + 1, by go_num, by omega, by rw [HD.out, List.length_append, List.map_append]; rw [HSH.out] at hown'; exact hown', (hB.alloc (by have := hB.size; omega) _).grown hgrow (by have := hB.size; simp; omega) (own_lt hown)⟩
      case measure => simp [intOf]; omega
    · obtain rfl : i = xs.length := by omega
      rw [List.take_length] at hown
      have HU := Lib.hid (impl_unpack _ (xs.map (· / 16)) (fun y hy => by obtain ⟨x, hx, rfl⟩ := List.mem_map.1 hy; have := HX.out x hx; omega) wr (RdN.of_own hown (by rw [List.length_map]; omega)) (HCS.out.below hB))
      unfold UnpEnd at HU
      have HB := Lib.hid hB
      clear hown hB
      go_wp2_with fail
      refine HU.out.mono ?_
      rintro e w1 ⟨rfl, hb⟩
      have HB1 := Lib.hid (HB.out.trans (hb.mono HB.out.size))
      clear hb
      go_wp2_with fail
      go_ret
      exact ⟨rfl, HB1.out⟩
end Go.Proofs.YtllhcdkbgknjdaaDoor

namespace Go.Proofs.YtllhcdkbgknjdaaDoor
open Go.RowKit Go

/-- Cells that can be read and cut. -/
def RdC (w : World) (v : Value) (xs : List Nat) : Prop := RdN w v xs ∧ ∃ A cap, v = .slice A xs.length cap ∧ xs.length ≤ cap
theorem RdC.below {w w' : World} {v : Value} {xs : List Nat} (h : RdC w v xs) (hb : Below w.heap.size w w') : RdC w' v xs := ⟨h.1.below hb, h.2⟩
theorem RdC.first {w : World} {v : Value} {xs : List Nat} (h : RdC w v xs) (h0 : xs ≠ []) : ∃ a cap, v = .slice (some a) xs.length cap ∧ xs.length ≤ cap ∧ a.block < w.heap.size ∧ ∀ i (h : i < xs.length), w.cell? (a.add i) = some (.int .u32 (xs[i] : Int)) := by
  obtain ⟨⟨A, cap, rfl, hl, hc⟩, B, cap2, hv, hle⟩ := h
  injection hv with h1 h2 h3
  subst h1 h3
  obtain ⟨a, rfl, hb, -⟩ := hc 0 (List.length_pos_iff.2 h0)
  refine ⟨a, cap, rfl, hle, hb, fun i hi => ?_⟩
  obtain ⟨a2, e, -, h2⟩ := hc i hi
  injection e with e
  subst e
  exact h2
theorem RdC.take {w : World} {a : Addr} {cap : Nat} {xs : List Nat} {n : Nat} (h : RdC w (.slice (some a) n cap) xs) (k : Nat) (hk : k ≤ xs.length) : RdC w (.slice (some a) k cap) (xs.take k) := by
  obtain ⟨⟨A, cap1, hv1, hl, hc⟩, B, cap2, hv, hle⟩ := h
  injection hv with h1 h2 h3
  subst h1 h2 h3
  injection hv1 with h1 h2 h3
  subst h1 h3
  have hlt : (xs.take k).length = k := by rw [List.length_take]; omega
  refine ⟨⟨some a, cap, by rw [hlt], by omega, fun i hi => ?_⟩, some a, cap, by rw [hlt], by omega⟩
  obtain ⟨a2, e, hb, h2⟩ := hc i (by omega)
  exact ⟨a2, e, hb, by rw [List.getElem_take]; exact h2⟩
/-- The value of an item's shape. -/
def shapeV (it : It) : Value :=
  if wordK it.kind = true then .iface 108 (.agg #[.int .i64 it.kind, .string it.name])
  else if numK it.kind = true then .iface 110 (.agg #[.int .i64 it.kind, .int .i32 it.n, .bool it.hex])
  else if it.kind = 9 then .iface 112 (.agg #[.int .i64 it.kind, .string it.name, .int .i32 it.n])
  else .iface 114 (.agg #[.int .i64 it.kind, .int .u32 (it.raw : Int)])
/-- What guess answers. -/
def GuessEnd (w : World) (xs : List Nat) (e : Ending) (w' : World) : Prop := e = .returned (.tuple #[shapeV (guessC xs).1, .int .i64 ((guessC xs).2 : Int)]) ∧ Below w.heap.size w w'
theorem paint_box {w w2 : World} {k : Int} {t : TypeId} (h : Below (w.heap.size + 1) (w.alloc (.cells #[.int .i64 k] t)) w2) : w2.cell? ⟨w.heap.size, 0, none⟩ = some (.int .i64 k) ∧ Below w.heap.size w w2 :=
  ⟨((Blk.new w t #[.int .i64 k]).below h (by omega)).cell 0, ((Below.refl _ _).alloc (Nat.le_refl _) _).trans (h.mono (by omega))⟩
theorem i32_sgn {x : Nat} (h : x < 4294967296) : IntKind.i32.wrap (x : Int) = sgn x := by rw [IntKind.wrap_i32]; unfold sgn; split <;> omega

set_option maxRecDepth 100000 in
set_option maxHeartbeats 4000000 in
theorem guess_0a (tg : Nat → Nat) (v : Value) (x : Nat) (hx : ∀ c ∈ [x], c < 4294967296) (hl : [x].length ≤ 64) (w : World) (hv : RdC w v [x]) (hcs : TabsT tg w)
    (ht : x % 16 = 0) : Calls Tryd.prog 69 #[v] w (GuessEnd w [x]) := by
  obtain ⟨a, cap, rfl, hcap, hab, hcell⟩ := hv.first (List.cons_ne_nil _ _)
  have _ := hl
  have hc0 : w.cell? (a.add 0) = some (.int .u32 (x : Int)) := hcell 0 (by simp)
  have hx0 := hx x (by simp)
  have hand := and15 hx0
  rw [ht] at hand
  have hand16 := and16 hx0
  have hgs : guessC [x] = (rawIt x, 1) := by
    unfold guessC
    simp only [List.getD_cons_zero, List.getD_cons_succ, List.getD_nil, ht]
    simp [kindT]
  unfold GuessEnd
  rw [hgs]
  have hk := hcs.kinds.cell 0 (by decide)
  change w.cell? ⟨0, 0, none⟩ = some (.int .i64 0) at hk
  have hkl := lt_of_cell_tab hk
  have h1c : 1 ≤ cap := hcap
  have HE : Hid (∀ W, Below w.heap.size w W → (Ending.returned (.tuple #[.iface 114 (.agg #[.int .i64 0, .int .u32 (x : Int)]), .int .i64 1]) = Ending.returned (.tuple #[shapeV (rawIt x), .int .i64 ((1 : Nat) : Int)]) ∧ Below w.heap.size w W)) := Lib.hid (fun W h => ⟨rfl, h⟩)
  clear hgs hcell hx ht hv
  have cc0 : w.cell? a = some (.int .u32 (x : Int)) := hc0
  clear hcs hc0
  go_enter Tryd.func69, Tryd.ntmps69
  go_wp2_with fail
  go_ret2
  exact HE.out _ ((Below.refl _ _).alloc (Nat.le_refl _) _)

set_option maxRecDepth 100000 in
set_option maxHeartbeats 4000000 in
theorem guess_1a (tg : Nat → Nat) (v : Value) (x : Nat) (hx : ∀ c ∈ [x], c < 4294967296) (hl : [x].length ≤ 64) (w : World) (hv : RdC w v [x]) (hcs : TabsT tg w)
    (ht : x % 16 = 1) : Calls Tryd.prog 69 #[v] w (GuessEnd w [x]) := by
  obtain ⟨a, cap, rfl, hcap, hab, hcell⟩ := hv.first (List.cons_ne_nil _ _)
  have _ := hl
  have hc0 : w.cell? (a.add 0) = some (.int .u32 (x : Int)) := hcell 0 (by simp)
  have hx0 := hx x (by simp)
  have hand := and15 hx0
  rw [ht] at hand
  have hand16 := and16 hx0
  have hgs : guessC [x] = (⟨1, ⟨(unpacked (([x].take (spanC [x])).map (· / 16))).toArray⟩, 0, false, 0⟩, spanC [x]) := by
    unfold guessC
    simp only [List.getD_cons_zero, List.getD_cons_succ, List.getD_nil, ht]
    simp [kindT]
  unfold GuessEnd
  rw [hgs]
  have hk := hcs.kinds.cell 1 (by decide)
  change w.cell? ⟨0, 1, none⟩ = some (.int .i64 1) at hk
  have hkl := lt_of_cell_tab hk
  have HNS := Lib.hid (fun W (hb : Below w.heap.size w W) => namespan_any _ [x] hx (List.cons_ne_nil _ _) W (hv.below hb).1)
  have hsl := spanC_le (List.cons_ne_nil x [])
  have HTK := Lib.hid (hv.take (spanC [x]) hsl)
  have htl : ([x].take (spanC [x])).length ≤ 64 := by rw [List.length_take]; omega
  have HNI := Lib.hid (fun W (hb : Below w.heap.size w W) => namein_any _ ([x].take (spanC [x])) (fun c h => hx c (List.mem_of_mem_take h)) htl W ((HTK.out.below hb).1) (hcs.below hb).codes)
  obtain ⟨nm, hnm⟩ : ∃ nm : ByteArray, (⟨(unpacked (([x].take (spanC [x])).map (· / 16))).toArray⟩ : ByteArray) = nm := ⟨_, rfl⟩
  rw [hnm] at HNI ⊢
  obtain ⟨s, hs⟩ : ∃ s, spanC [x] = s := ⟨_, rfl⟩
  rw [hs] at HNS HNI hsl ⊢
  have hsi : (s : Int) ≤ (cap : Int) := by omega
  clear hnm hs HTK htl
  have h1c : 1 ≤ cap := hcap
  have HE : Hid (∀ W, Below w.heap.size w W → (Ending.returned (.tuple #[.iface 108 (.agg #[.int .i64 1, .string nm]), .int .i64 (s : Int)]) = Ending.returned (.tuple #[shapeV ⟨1, nm, 0, false, 0⟩, .int .i64 ((s : Nat) : Int)]) ∧ Below w.heap.size w W)) := Lib.hid (fun W h => ⟨rfl, h⟩)
  clear hgs hcell hx ht hv
  have cc0 : w.cell? a = some (.int .u32 (x : Int)) := hc0
  clear hcs hc0
  go_enter Tryd.func69, Tryd.ntmps69
  go_wp2_with fail
  refine (HNS.out _ ((Below.refl _ _).alloc (Nat.le_refl _) _)).mono ?_
  rintro e w' ⟨rfl, rfl⟩
  have HBX : Hid (Below (w.heap.size + 1) (w.alloc (.cells #[.int .i64 1] 104)) (w.alloc (.cells #[.int .i64 1] 104)).drew) := Lib.hid (Below.refl _ _).drew
  go_wp2_with fail
  go_region_held3 (fun w' => w'.cell? ⟨w.heap.size, 0, none⟩ = some (.int .i64 1)) (first | exact (paint_box HBX.out).1 | go_keep | exact (paint_box (HBX.out.trans (hb2.mono (by simp)))).1) (first | (go_at_call 81; refine (HNI.out _ (paint_box HBX.out).2).mono ?_; rintro e w2 ⟨rfl, hb2⟩))
  go_wp2_with fail
  go_ret2
  exact HE.out _ (paint_box (HBX.out.trans (hb2.mono (by simp)))).2

set_option maxRecDepth 100000 in
set_option maxHeartbeats 4000000 in
theorem guess_2a (tg : Nat → Nat) (v : Value) (x : Nat) (hx : ∀ c ∈ [x], c < 4294967296) (hl : [x].length ≤ 64) (w : World) (hv : RdC w v [x]) (hcs : TabsT tg w)
    (ht : x % 16 = 2) : Calls Tryd.prog 69 #[v] w (GuessEnd w [x]) := by
  obtain ⟨a, cap, rfl, hcap, hab, hcell⟩ := hv.first (List.cons_ne_nil _ _)
  have _ := hl
  have hc0 : w.cell? (a.add 0) = some (.int .u32 (x : Int)) := hcell 0 (by simp)
  have hx0 := hx x (by simp)
  have hand := and15 hx0
  rw [ht] at hand
  have hand16 := and16 hx0
  have hgs : guessC [x] = (⟨7, noText, sgn 0, decide (x / 16 % 2 = 1), 0⟩, 2) := by
    unfold guessC
    simp only [List.getD_cons_zero, List.getD_cons_succ, List.getD_nil, ht]
    simp [kindT]
  unfold GuessEnd
  rw [hgs]
  have hk := hcs.kinds.cell 2 (by decide)
  change w.cell? ⟨0, 2, none⟩ = some (.int .i64 7) at hk
  have hkl := lt_of_cell_tab hk
  obtain ⟨hb, hhb⟩ : ∃ b, decide (x / 16 % 2 = 1) = b := ⟨_, rfl⟩
  rw [hhb] at hand16 ⊢
  clear hhb
  have h1c : 1 ≤ cap := hcap
  have HE : Hid (∀ W, Below w.heap.size w W → (Ending.returned (.tuple #[.iface 110 (.agg #[.int .i64 7, .int .i32 0, .bool hb]), .int .i64 2]) = Ending.returned (.tuple #[shapeV ⟨7, noText, sgn 0, hb, 0⟩, .int .i64 ((2 : Nat) : Int)]) ∧ Below w.heap.size w W)) := Lib.hid (fun W h => ⟨rfl, h⟩)
  clear hgs hcell hx ht hv
  have cc0 : w.cell? a = some (.int .u32 (x : Int)) := hc0
  clear hcs hc0
  go_enter Tryd.func69, Tryd.ntmps69
  go_wp2_with fail
  go_ret2
  exact HE.out _ ((Below.refl _ _).alloc (Nat.le_refl _) _)

set_option maxRecDepth 100000 in
set_option maxHeartbeats 4000000 in
theorem guess_3a (tg : Nat → Nat) (v : Value) (x : Nat) (hx : ∀ c ∈ [x], c < 4294967296) (hl : [x].length ≤ 64) (w : World) (hv : RdC w v [x]) (hcs : TabsT tg w)
    (ht : x % 16 = 3) : Calls Tryd.prog 69 #[v] w (GuessEnd w [x]) := by
  obtain ⟨a, cap, rfl, hcap, hab, hcell⟩ := hv.first (List.cons_ne_nil _ _)
  have _ := hl
  have hc0 : w.cell? (a.add 0) = some (.int .u32 (x : Int)) := hcell 0 (by simp)
  have hx0 := hx x (by simp)
  have hand := and15 hx0
  rw [ht] at hand
  have hand16 := and16 hx0
  have hgs : guessC [x] = (⟨2, ⟨(unpacked (([x].take (spanC [x])).map (· / 16))).toArray⟩, 0, false, 0⟩, spanC [x]) := by
    unfold guessC
    simp only [List.getD_cons_zero, List.getD_cons_succ, List.getD_nil, ht]
    simp [kindT]
  unfold GuessEnd
  rw [hgs]
  have hk := hcs.kinds.cell 3 (by decide)
  change w.cell? ⟨0, 3, none⟩ = some (.int .i64 2) at hk
  have hkl := lt_of_cell_tab hk
  have HNS := Lib.hid (fun W (hb : Below w.heap.size w W) => namespan_any _ [x] hx (List.cons_ne_nil _ _) W (hv.below hb).1)
  have hsl := spanC_le (List.cons_ne_nil x [])
  have HTK := Lib.hid (hv.take (spanC [x]) hsl)
  have htl : ([x].take (spanC [x])).length ≤ 64 := by rw [List.length_take]; omega
  have HNI := Lib.hid (fun W (hb : Below w.heap.size w W) => namein_any _ ([x].take (spanC [x])) (fun c h => hx c (List.mem_of_mem_take h)) htl W ((HTK.out.below hb).1) (hcs.below hb).codes)
  obtain ⟨nm, hnm⟩ : ∃ nm : ByteArray, (⟨(unpacked (([x].take (spanC [x])).map (· / 16))).toArray⟩ : ByteArray) = nm := ⟨_, rfl⟩
  rw [hnm] at HNI ⊢
  obtain ⟨s, hs⟩ : ∃ s, spanC [x] = s := ⟨_, rfl⟩
  rw [hs] at HNS HNI hsl ⊢
  have hsi : (s : Int) ≤ (cap : Int) := by omega
  clear hnm hs HTK htl
  have h1c : 1 ≤ cap := hcap
  have HE : Hid (∀ W, Below w.heap.size w W → (Ending.returned (.tuple #[.iface 108 (.agg #[.int .i64 2, .string nm]), .int .i64 (s : Int)]) = Ending.returned (.tuple #[shapeV ⟨2, nm, 0, false, 0⟩, .int .i64 ((s : Nat) : Int)]) ∧ Below w.heap.size w W)) := Lib.hid (fun W h => ⟨rfl, h⟩)
  clear hgs hcell hx ht hv
  have cc0 : w.cell? a = some (.int .u32 (x : Int)) := hc0
  clear hcs hc0
  go_enter Tryd.func69, Tryd.ntmps69
  go_wp2_with fail
  refine (HNS.out _ ((Below.refl _ _).alloc (Nat.le_refl _) _)).mono ?_
  rintro e w' ⟨rfl, rfl⟩
  have HBX : Hid (Below (w.heap.size + 1) (w.alloc (.cells #[.int .i64 2] 104)) (w.alloc (.cells #[.int .i64 2] 104)).drew) := Lib.hid (Below.refl _ _).drew
  go_wp2_with fail
  go_region_held3 (fun w' => w'.cell? ⟨w.heap.size, 0, none⟩ = some (.int .i64 2)) (first | exact (paint_box HBX.out).1 | go_keep | exact (paint_box (HBX.out.trans (hb2.mono (by simp)))).1) (first | (go_at_call 81; refine (HNI.out _ (paint_box HBX.out).2).mono ?_; rintro e w2 ⟨rfl, hb2⟩))
  go_wp2_with fail
  go_ret2
  exact HE.out _ (paint_box (HBX.out.trans (hb2.mono (by simp)))).2

set_option maxRecDepth 100000 in
set_option maxHeartbeats 4000000 in
theorem guess_4a (tg : Nat → Nat) (v : Value) (x : Nat) (hx : ∀ c ∈ [x], c < 4294967296) (hl : [x].length ≤ 64) (w : World) (hv : RdC w v [x]) (hcs : TabsT tg w)
    (ht : x % 16 = 4) : Calls Tryd.prog 69 #[v] w (GuessEnd w [x]) := by
  obtain ⟨a, cap, rfl, hcap, hab, hcell⟩ := hv.first (List.cons_ne_nil _ _)
  have _ := hl
  have hc0 : w.cell? (a.add 0) = some (.int .u32 (x : Int)) := hcell 0 (by simp)
  have hx0 := hx x (by simp)
  have hand := and15 hx0
  rw [ht] at hand
  have hand16 := and16 hx0
  have hgs : guessC [x] = (⟨3, ⟨(unpacked (([x].take (spanC [x])).map (· / 16))).toArray⟩, 0, false, 0⟩, spanC [x]) := by
    unfold guessC
    simp only [List.getD_cons_zero, List.getD_cons_succ, List.getD_nil, ht]
    simp [kindT]
  unfold GuessEnd
  rw [hgs]
  have hk := hcs.kinds.cell 4 (by decide)
  change w.cell? ⟨0, 4, none⟩ = some (.int .i64 3) at hk
  have hkl := lt_of_cell_tab hk
  have HNS := Lib.hid (fun W (hb : Below w.heap.size w W) => namespan_any _ [x] hx (List.cons_ne_nil _ _) W (hv.below hb).1)
  have hsl := spanC_le (List.cons_ne_nil x [])
  have HTK := Lib.hid (hv.take (spanC [x]) hsl)
  have htl : ([x].take (spanC [x])).length ≤ 64 := by rw [List.length_take]; omega
  have HNI := Lib.hid (fun W (hb : Below w.heap.size w W) => namein_any _ ([x].take (spanC [x])) (fun c h => hx c (List.mem_of_mem_take h)) htl W ((HTK.out.below hb).1) (hcs.below hb).codes)
  obtain ⟨nm, hnm⟩ : ∃ nm : ByteArray, (⟨(unpacked (([x].take (spanC [x])).map (· / 16))).toArray⟩ : ByteArray) = nm := ⟨_, rfl⟩
  rw [hnm] at HNI ⊢
  obtain ⟨s, hs⟩ : ∃ s, spanC [x] = s := ⟨_, rfl⟩
  rw [hs] at HNS HNI hsl ⊢
  have hsi : (s : Int) ≤ (cap : Int) := by omega
  clear hnm hs HTK htl
  have h1c : 1 ≤ cap := hcap
  have HE : Hid (∀ W, Below w.heap.size w W → (Ending.returned (.tuple #[.iface 108 (.agg #[.int .i64 3, .string nm]), .int .i64 (s : Int)]) = Ending.returned (.tuple #[shapeV ⟨3, nm, 0, false, 0⟩, .int .i64 ((s : Nat) : Int)]) ∧ Below w.heap.size w W)) := Lib.hid (fun W h => ⟨rfl, h⟩)
  clear hgs hcell hx ht hv
  have cc0 : w.cell? a = some (.int .u32 (x : Int)) := hc0
  clear hcs hc0
  go_enter Tryd.func69, Tryd.ntmps69
  go_wp2_with fail
  refine (HNS.out _ ((Below.refl _ _).alloc (Nat.le_refl _) _)).mono ?_
  rintro e w' ⟨rfl, rfl⟩
  have HBX : Hid (Below (w.heap.size + 1) (w.alloc (.cells #[.int .i64 3] 104)) (w.alloc (.cells #[.int .i64 3] 104)).drew) := Lib.hid (Below.refl _ _).drew
  go_wp2_with fail
  go_region_held3 (fun w' => w'.cell? ⟨w.heap.size, 0, none⟩ = some (.int .i64 3)) (first | exact (paint_box HBX.out).1 | go_keep | exact (paint_box (HBX.out.trans (hb2.mono (by simp)))).1) (first | (go_at_call 81; refine (HNI.out _ (paint_box HBX.out).2).mono ?_; rintro e w2 ⟨rfl, hb2⟩))
  go_wp2_with fail
  go_ret2
  exact HE.out _ (paint_box (HBX.out.trans (hb2.mono (by simp)))).2

set_option maxRecDepth 100000 in
set_option maxHeartbeats 4000000 in
theorem guess_5a (tg : Nat → Nat) (v : Value) (x : Nat) (hx : ∀ c ∈ [x], c < 4294967296) (hl : [x].length ≤ 64) (w : World) (hv : RdC w v [x]) (hcs : TabsT tg w)
    (ht : x % 16 = 5) : Calls Tryd.prog 69 #[v] w (GuessEnd w [x]) := by
  obtain ⟨a, cap, rfl, hcap, hab, hcell⟩ := hv.first (List.cons_ne_nil _ _)
  have _ := hl
  have hc0 : w.cell? (a.add 0) = some (.int .u32 (x : Int)) := hcell 0 (by simp)
  have hx0 := hx x (by simp)
  have hand := and15 hx0
  rw [ht] at hand
  have hand16 := and16 hx0
  have hgs : guessC [x] = (⟨8, noText, sgn 0, decide (x / 16 % 2 = 1), 0⟩, 2) := by
    unfold guessC
    simp only [List.getD_cons_zero, List.getD_cons_succ, List.getD_nil, ht]
    simp [kindT]
  unfold GuessEnd
  rw [hgs]
  have hk := hcs.kinds.cell 5 (by decide)
  change w.cell? ⟨0, 5, none⟩ = some (.int .i64 8) at hk
  have hkl := lt_of_cell_tab hk
  obtain ⟨hb, hhb⟩ : ∃ b, decide (x / 16 % 2 = 1) = b := ⟨_, rfl⟩
  rw [hhb] at hand16 ⊢
  clear hhb
  have h1c : 1 ≤ cap := hcap
  have HE : Hid (∀ W, Below w.heap.size w W → (Ending.returned (.tuple #[.iface 110 (.agg #[.int .i64 8, .int .i32 0, .bool hb]), .int .i64 2]) = Ending.returned (.tuple #[shapeV ⟨8, noText, sgn 0, hb, 0⟩, .int .i64 ((2 : Nat) : Int)]) ∧ Below w.heap.size w W)) := Lib.hid (fun W h => ⟨rfl, h⟩)
  clear hgs hcell hx ht hv
  have cc0 : w.cell? a = some (.int .u32 (x : Int)) := hc0
  clear hcs hc0
  go_enter Tryd.func69, Tryd.ntmps69
  go_wp2_with fail
  go_ret2
  exact HE.out _ ((Below.refl _ _).alloc (Nat.le_refl _) _)

set_option maxRecDepth 100000 in
set_option maxHeartbeats 4000000 in
theorem guess_6a (tg : Nat → Nat) (v : Value) (x : Nat) (hx : ∀ c ∈ [x], c < 4294967296) (hl : [x].length ≤ 64) (w : World) (hv : RdC w v [x]) (hcs : TabsT tg w)
    (ht : x % 16 = 6) : Calls Tryd.prog 69 #[v] w (GuessEnd w [x]) := by
  obtain ⟨a, cap, rfl, hcap, hab, hcell⟩ := hv.first (List.cons_ne_nil _ _)
  have _ := hl
  have hc0 : w.cell? (a.add 0) = some (.int .u32 (x : Int)) := hcell 0 (by simp)
  have hx0 := hx x (by simp)
  have hand := and15 hx0
  rw [ht] at hand
  have hand16 := and16 hx0
  have hgs : guessC [x] = (⟨8, noText, sgn x / 32, decide (x / 16 % 2 = 1), 0⟩, 1) := by
    unfold guessC
    simp only [List.getD_cons_zero, List.getD_cons_succ, List.getD_nil, ht]
    simp [kindT]
  unfold GuessEnd
  rw [hgs]
  have hk := hcs.kinds.cell 6 (by decide)
  change w.cell? ⟨0, 6, none⟩ = some (.int .i64 8) at hk
  have hkl := lt_of_cell_tab hk
  have hsg := i32_sgn hx0
  obtain ⟨z, hz⟩ : ∃ z, sgn x = z := ⟨_, rfl⟩
  rw [hz] at hsg ⊢
  clear hz
  obtain ⟨hb, hhb⟩ : ∃ b, decide (x / 16 % 2 = 1) = b := ⟨_, rfl⟩
  rw [hhb] at hand16 ⊢
  clear hhb
  have h1c : 1 ≤ cap := hcap
  have HE : Hid (∀ W, Below w.heap.size w W → (Ending.returned (.tuple #[.iface 110 (.agg #[.int .i64 8, .int .i32 (z / 32), .bool hb]), .int .i64 1]) = Ending.returned (.tuple #[shapeV ⟨8, noText, z / 32, hb, 0⟩, .int .i64 ((1 : Nat) : Int)]) ∧ Below w.heap.size w W)) := Lib.hid (fun W h => ⟨rfl, h⟩)
  clear hgs hcell hx ht hv
  have cc0 : w.cell? a = some (.int .u32 (x : Int)) := hc0
  clear hcs hc0
  go_enter Tryd.func69, Tryd.ntmps69
  go_wp2_with fail
  go_ret2
  exact HE.out _ ((Below.refl _ _).alloc (Nat.le_refl _) _)

set_option maxRecDepth 100000 in
set_option maxHeartbeats 4000000 in
theorem guess_7a (tg : Nat → Nat) (v : Value) (x : Nat) (hx : ∀ c ∈ [x], c < 4294967296) (hl : [x].length ≤ 64) (w : World) (hv : RdC w v [x]) (hcs : TabsT tg w)
    (ht : x % 16 = 7) : Calls Tryd.prog 69 #[v] w (GuessEnd w [x]) := by
  obtain ⟨a, cap, rfl, hcap, hab, hcell⟩ := hv.first (List.cons_ne_nil _ _)
  have _ := hl
  have hc0 : w.cell? (a.add 0) = some (.int .u32 (x : Int)) := hcell 0 (by simp)
  have hx0 := hx x (by simp)
  have hand := and15 hx0
  rw [ht] at hand
  have hand16 := and16 hx0
  have hgs : guessC [x] = (rawIt x, 1) := by
    unfold guessC
    simp only [List.getD_cons_zero, List.getD_cons_succ, List.getD_nil, ht]
    simp [kindT]
  unfold GuessEnd
  rw [hgs]
  have hk := hcs.kinds.cell 7 (by decide)
  change w.cell? ⟨0, 7, none⟩ = some (.int .i64 0) at hk
  have hkl := lt_of_cell_tab hk
  have h1c : 1 ≤ cap := hcap
  have HE : Hid (∀ W, Below w.heap.size w W → (Ending.returned (.tuple #[.iface 114 (.agg #[.int .i64 0, .int .u32 (x : Int)]), .int .i64 1]) = Ending.returned (.tuple #[shapeV (rawIt x), .int .i64 ((1 : Nat) : Int)]) ∧ Below w.heap.size w W)) := Lib.hid (fun W h => ⟨rfl, h⟩)
  clear hgs hcell hx ht hv
  have cc0 : w.cell? a = some (.int .u32 (x : Int)) := hc0
  clear hcs hc0
  go_enter Tryd.func69, Tryd.ntmps69
  go_wp2_with fail
  go_ret2
  exact HE.out _ ((Below.refl _ _).alloc (Nat.le_refl _) _)

set_option maxRecDepth 100000 in
set_option maxHeartbeats 4000000 in
theorem guess_8a (tg : Nat → Nat) (v : Value) (x : Nat) (hx : ∀ c ∈ [x], c < 4294967296) (hl : [x].length ≤ 64) (w : World) (hv : RdC w v [x]) (hcs : TabsT tg w)
    (ht : x % 16 = 8) : Calls Tryd.prog 69 #[v] w (GuessEnd w [x]) := by
  obtain ⟨a, cap, rfl, hcap, hab, hcell⟩ := hv.first (List.cons_ne_nil _ _)
  have _ := hl
  have hc0 : w.cell? (a.add 0) = some (.int .u32 (x : Int)) := hcell 0 (by simp)
  have hx0 := hx x (by simp)
  have hand := and15 hx0
  rw [ht] at hand
  have hand16 := and16 hx0
  have hgs : guessC [x] = (⟨7, noText, sgn x / 32, decide (x / 16 % 2 = 1), 0⟩, 1) := by
    unfold guessC
    simp only [List.getD_cons_zero, List.getD_cons_succ, List.getD_nil, ht]
    simp [kindT]
  unfold GuessEnd
  rw [hgs]
  have hk := hcs.kinds.cell 8 (by decide)
  change w.cell? ⟨0, 8, none⟩ = some (.int .i64 7) at hk
  have hkl := lt_of_cell_tab hk
  have hsg := i32_sgn hx0
  obtain ⟨z, hz⟩ : ∃ z, sgn x = z := ⟨_, rfl⟩
  rw [hz] at hsg ⊢
  clear hz
  obtain ⟨hb, hhb⟩ : ∃ b, decide (x / 16 % 2 = 1) = b := ⟨_, rfl⟩
  rw [hhb] at hand16 ⊢
  clear hhb
  have h1c : 1 ≤ cap := hcap
  have HE : Hid (∀ W, Below w.heap.size w W → (Ending.returned (.tuple #[.iface 110 (.agg #[.int .i64 7, .int .i32 (z / 32), .bool hb]), .int .i64 1]) = Ending.returned (.tuple #[shapeV ⟨7, noText, z / 32, hb, 0⟩, .int .i64 ((1 : Nat) : Int)]) ∧ Below w.heap.size w W)) := Lib.hid (fun W h => ⟨rfl, h⟩)
  clear hgs hcell hx ht hv
  have cc0 : w.cell? a = some (.int .u32 (x : Int)) := hc0
  clear hcs hc0
  go_enter Tryd.func69, Tryd.ntmps69
  go_wp2_with fail
  go_ret2
  exact HE.out _ ((Below.refl _ _).alloc (Nat.le_refl _) _)

set_option maxRecDepth 100000 in
set_option maxHeartbeats 4000000 in
theorem guess_9a (tg : Nat → Nat) (v : Value) (x : Nat) (hx : ∀ c ∈ [x], c < 4294967296) (hl : [x].length ≤ 64) (w : World) (hv : RdC w v [x]) (hcs : TabsT tg w)
    (ht : x % 16 = 9) : Calls Tryd.prog 69 #[v] w (GuessEnd w [x]) := by
  obtain ⟨a, cap, rfl, hcap, hab, hcell⟩ := hv.first (List.cons_ne_nil _ _)
  have _ := hl
  have hc0 : w.cell? (a.add 0) = some (.int .u32 (x : Int)) := hcell 0 (by simp)
  have hx0 := hx x (by simp)
  have hand := and15 hx0
  rw [ht] at hand
  have hand16 := and16 hx0
  have hgs : guessC [x] = (⟨4, ⟨(unpacked (([x].take (spanC [x])).map (· / 16))).toArray⟩, 0, false, 0⟩, spanC [x]) := by
    unfold guessC
    simp only [List.getD_cons_zero, List.getD_cons_succ, List.getD_nil, ht]
    simp [kindT]
  unfold GuessEnd
  rw [hgs]
  have hk := hcs.kinds.cell 9 (by decide)
  change w.cell? ⟨0, 9, none⟩ = some (.int .i64 4) at hk
  have hkl := lt_of_cell_tab hk
  have HNS := Lib.hid (fun W (hb : Below w.heap.size w W) => namespan_any _ [x] hx (List.cons_ne_nil _ _) W (hv.below hb).1)
  have hsl := spanC_le (List.cons_ne_nil x [])
  have HTK := Lib.hid (hv.take (spanC [x]) hsl)
  have htl : ([x].take (spanC [x])).length ≤ 64 := by rw [List.length_take]; omega
  have HNI := Lib.hid (fun W (hb : Below w.heap.size w W) => namein_any _ ([x].take (spanC [x])) (fun c h => hx c (List.mem_of_mem_take h)) htl W ((HTK.out.below hb).1) (hcs.below hb).codes)
  obtain ⟨nm, hnm⟩ : ∃ nm : ByteArray, (⟨(unpacked (([x].take (spanC [x])).map (· / 16))).toArray⟩ : ByteArray) = nm := ⟨_, rfl⟩
  rw [hnm] at HNI ⊢
  obtain ⟨s, hs⟩ : ∃ s, spanC [x] = s := ⟨_, rfl⟩
  rw [hs] at HNS HNI hsl ⊢
  have hsi : (s : Int) ≤ (cap : Int) := by omega
  clear hnm hs HTK htl
  have h1c : 1 ≤ cap := hcap
  have HE : Hid (∀ W, Below w.heap.size w W → (Ending.returned (.tuple #[.iface 108 (.agg #[.int .i64 4, .string nm]), .int .i64 (s : Int)]) = Ending.returned (.tuple #[shapeV ⟨4, nm, 0, false, 0⟩, .int .i64 ((s : Nat) : Int)]) ∧ Below w.heap.size w W)) := Lib.hid (fun W h => ⟨rfl, h⟩)
  clear hgs hcell hx ht hv
  have cc0 : w.cell? a = some (.int .u32 (x : Int)) := hc0
  clear hcs hc0
  go_enter Tryd.func69, Tryd.ntmps69
  go_wp2_with fail
  refine (HNS.out _ ((Below.refl _ _).alloc (Nat.le_refl _) _)).mono ?_
  rintro e w' ⟨rfl, rfl⟩
  have HBX : Hid (Below (w.heap.size + 1) (w.alloc (.cells #[.int .i64 4] 104)) (w.alloc (.cells #[.int .i64 4] 104)).drew) := Lib.hid (Below.refl _ _).drew
  go_wp2_with fail
  go_region_held3 (fun w' => w'.cell? ⟨w.heap.size, 0, none⟩ = some (.int .i64 4)) (first | exact (paint_box HBX.out).1 | go_keep | exact (paint_box (HBX.out.trans (hb2.mono (by simp)))).1) (first | (go_at_call 81; refine (HNI.out _ (paint_box HBX.out).2).mono ?_; rintro e w2 ⟨rfl, hb2⟩))
  go_wp2_with fail
  go_ret2
  exact HE.out _ (paint_box (HBX.out.trans (hb2.mono (by simp)))).2

set_option maxRecDepth 100000 in
set_option maxHeartbeats 4000000 in
theorem guess_10a (tg : Nat → Nat) (v : Value) (x : Nat) (hx : ∀ c ∈ [x], c < 4294967296) (hl : [x].length ≤ 64) (w : World) (hv : RdC w v [x]) (hcs : TabsT tg w)
    (ht : x % 16 = 10) : Calls Tryd.prog 69 #[v] w (GuessEnd w [x]) := by
  obtain ⟨a, cap, rfl, hcap, hab, hcell⟩ := hv.first (List.cons_ne_nil _ _)
  have _ := hl
  have hc0 : w.cell? (a.add 0) = some (.int .u32 (x : Int)) := hcell 0 (by simp)
  have hx0 := hx x (by simp)
  have hand := and15 hx0
  rw [ht] at hand
  have hand16 := and16 hx0
  have hgs : guessC [x] = (⟨5, ⟨(unpacked (([x].take (spanC [x])).map (· / 16))).toArray⟩, 0, false, 0⟩, spanC [x]) := by
    unfold guessC
    simp only [List.getD_cons_zero, List.getD_cons_succ, List.getD_nil, ht]
    simp [kindT]
  unfold GuessEnd
  rw [hgs]
  have hk := hcs.kinds.cell 10 (by decide)
  change w.cell? ⟨0, 10, none⟩ = some (.int .i64 5) at hk
  have hkl := lt_of_cell_tab hk
  have HNS := Lib.hid (fun W (hb : Below w.heap.size w W) => namespan_any _ [x] hx (List.cons_ne_nil _ _) W (hv.below hb).1)
  have hsl := spanC_le (List.cons_ne_nil x [])
  have HTK := Lib.hid (hv.take (spanC [x]) hsl)
  have htl : ([x].take (spanC [x])).length ≤ 64 := by rw [List.length_take]; omega
  have HNI := Lib.hid (fun W (hb : Below w.heap.size w W) => namein_any _ ([x].take (spanC [x])) (fun c h => hx c (List.mem_of_mem_take h)) htl W ((HTK.out.below hb).1) (hcs.below hb).codes)
  obtain ⟨nm, hnm⟩ : ∃ nm : ByteArray, (⟨(unpacked (([x].take (spanC [x])).map (· / 16))).toArray⟩ : ByteArray) = nm := ⟨_, rfl⟩
  rw [hnm] at HNI ⊢
  obtain ⟨s, hs⟩ : ∃ s, spanC [x] = s := ⟨_, rfl⟩
  rw [hs] at HNS HNI hsl ⊢
  have hsi : (s : Int) ≤ (cap : Int) := by omega
  clear hnm hs HTK htl
  have h1c : 1 ≤ cap := hcap
  have HE : Hid (∀ W, Below w.heap.size w W → (Ending.returned (.tuple #[.iface 108 (.agg #[.int .i64 5, .string nm]), .int .i64 (s : Int)]) = Ending.returned (.tuple #[shapeV ⟨5, nm, 0, false, 0⟩, .int .i64 ((s : Nat) : Int)]) ∧ Below w.heap.size w W)) := Lib.hid (fun W h => ⟨rfl, h⟩)
  clear hgs hcell hx ht hv
  have cc0 : w.cell? a = some (.int .u32 (x : Int)) := hc0
  clear hcs hc0
  go_enter Tryd.func69, Tryd.ntmps69
  go_wp2_with fail
  refine (HNS.out _ ((Below.refl _ _).alloc (Nat.le_refl _) _)).mono ?_
  rintro e w' ⟨rfl, rfl⟩
  have HBX : Hid (Below (w.heap.size + 1) (w.alloc (.cells #[.int .i64 5] 104)) (w.alloc (.cells #[.int .i64 5] 104)).drew) := Lib.hid (Below.refl _ _).drew
  go_wp2_with fail
  go_region_held3 (fun w' => w'.cell? ⟨w.heap.size, 0, none⟩ = some (.int .i64 5)) (first | exact (paint_box HBX.out).1 | go_keep | exact (paint_box (HBX.out.trans (hb2.mono (by simp)))).1) (first | (go_at_call 81; refine (HNI.out _ (paint_box HBX.out).2).mono ?_; rintro e w2 ⟨rfl, hb2⟩))
  go_wp2_with fail
  go_ret2
  exact HE.out _ (paint_box (HBX.out.trans (hb2.mono (by simp)))).2

set_option maxRecDepth 100000 in
set_option maxHeartbeats 4000000 in
theorem guess_11a (tg : Nat → Nat) (v : Value) (x : Nat) (hx : ∀ c ∈ [x], c < 4294967296) (hl : [x].length ≤ 64) (w : World) (hv : RdC w v [x]) (hcs : TabsT tg w)
    (ht : x % 16 = 11) : Calls Tryd.prog 69 #[v] w (GuessEnd w [x]) := by
  obtain ⟨a, cap, rfl, hcap, hab, hcell⟩ := hv.first (List.cons_ne_nil _ _)
  have _ := hl
  have hc0 : w.cell? (a.add 0) = some (.int .u32 (x : Int)) := hcell 0 (by simp)
  have hx0 := hx x (by simp)
  have hand := and15 hx0
  rw [ht] at hand
  have hand16 := and16 hx0
  have hgs : guessC [x] = (⟨6, ⟨(unpacked (([x].take (spanC [x])).map (· / 16))).toArray⟩, 0, false, 0⟩, spanC [x]) := by
    unfold guessC
    simp only [List.getD_cons_zero, List.getD_cons_succ, List.getD_nil, ht]
    simp [kindT]
  unfold GuessEnd
  rw [hgs]
  have hk := hcs.kinds.cell 11 (by decide)
  change w.cell? ⟨0, 11, none⟩ = some (.int .i64 6) at hk
  have hkl := lt_of_cell_tab hk
  have HNS := Lib.hid (fun W (hb : Below w.heap.size w W) => namespan_any _ [x] hx (List.cons_ne_nil _ _) W (hv.below hb).1)
  have hsl := spanC_le (List.cons_ne_nil x [])
  have HTK := Lib.hid (hv.take (spanC [x]) hsl)
  have htl : ([x].take (spanC [x])).length ≤ 64 := by rw [List.length_take]; omega
  have HNI := Lib.hid (fun W (hb : Below w.heap.size w W) => namein_any _ ([x].take (spanC [x])) (fun c h => hx c (List.mem_of_mem_take h)) htl W ((HTK.out.below hb).1) (hcs.below hb).codes)
  obtain ⟨nm, hnm⟩ : ∃ nm : ByteArray, (⟨(unpacked (([x].take (spanC [x])).map (· / 16))).toArray⟩ : ByteArray) = nm := ⟨_, rfl⟩
  rw [hnm] at HNI ⊢
  obtain ⟨s, hs⟩ : ∃ s, spanC [x] = s := ⟨_, rfl⟩
  rw [hs] at HNS HNI hsl ⊢
  have hsi : (s : Int) ≤ (cap : Int) := by omega
  clear hnm hs HTK htl
  have h1c : 1 ≤ cap := hcap
  have HE : Hid (∀ W, Below w.heap.size w W → (Ending.returned (.tuple #[.iface 108 (.agg #[.int .i64 6, .string nm]), .int .i64 (s : Int)]) = Ending.returned (.tuple #[shapeV ⟨6, nm, 0, false, 0⟩, .int .i64 ((s : Nat) : Int)]) ∧ Below w.heap.size w W)) := Lib.hid (fun W h => ⟨rfl, h⟩)
  clear hgs hcell hx ht hv
  have cc0 : w.cell? a = some (.int .u32 (x : Int)) := hc0
  clear hcs hc0
  go_enter Tryd.func69, Tryd.ntmps69
  go_wp2_with fail
  refine (HNS.out _ ((Below.refl _ _).alloc (Nat.le_refl _) _)).mono ?_
  rintro e w' ⟨rfl, rfl⟩
  have HBX : Hid (Below (w.heap.size + 1) (w.alloc (.cells #[.int .i64 6] 104)) (w.alloc (.cells #[.int .i64 6] 104)).drew) := Lib.hid (Below.refl _ _).drew
  go_wp2_with fail
  go_region_held3 (fun w' => w'.cell? ⟨w.heap.size, 0, none⟩ = some (.int .i64 6)) (first | exact (paint_box HBX.out).1 | go_keep | exact (paint_box (HBX.out.trans (hb2.mono (by simp)))).1) (first | (go_at_call 81; refine (HNI.out _ (paint_box HBX.out).2).mono ?_; rintro e w2 ⟨rfl, hb2⟩))
  go_wp2_with fail
  go_ret2
  exact HE.out _ (paint_box (HBX.out.trans (hb2.mono (by simp)))).2

set_option maxRecDepth 100000 in
set_option maxHeartbeats 4000000 in
theorem guess_12a (tg : Nat → Nat) (v : Value) (x : Nat) (hx : ∀ c ∈ [x], c < 4294967296) (hl : [x].length ≤ 64) (w : World) (hv : RdC w v [x]) (hcs : TabsT tg w)
    (ht : x % 16 = 12) : Calls Tryd.prog 69 #[v] w (GuessEnd w [x]) := by
  obtain ⟨a, cap, rfl, hcap, hab, hcell⟩ := hv.first (List.cons_ne_nil _ _)
  have _ := hl
  have hc0 : w.cell? (a.add 0) = some (.int .u32 (x : Int)) := hcell 0 (by simp)
  have hx0 := hx x (by simp)
  have hand := and15 hx0
  rw [ht] at hand
  have hand16 := and16 hx0
  have hgs : guessC [x] = (⟨9, ⟨(unpOne (x / 16)).toArray⟩, sgn 0, false, 0⟩, 2) := by
    unfold guessC
    simp only [List.getD_cons_zero, List.getD_cons_succ, List.getD_nil, ht]
    simp [kindT]
  unfold GuessEnd
  rw [hgs]
  have hk := hcs.kinds.cell 12 (by decide)
  change w.cell? ⟨0, 12, none⟩ = some (.int .i64 9) at hk
  have hkl := lt_of_cell_tab hk
  have HUN := Lib.hid (fun W (hb : Below w.heap.size w W) => impl_unpackone (x / 16) (by omega) W (hcs.below hb).codes)
  obtain ⟨nm, hnm⟩ : ∃ nm : ByteArray, (⟨(unpOne (x / 16)).toArray⟩ : ByteArray) = nm := ⟨_, rfl⟩
  rw [hnm] at HUN ⊢
  clear hnm
  have h1c : 1 ≤ cap := hcap
  have HE : Hid (∀ W, Below w.heap.size w W → (Ending.returned (.tuple #[.iface 112 (.agg #[.int .i64 9, .string nm, .int .i32 0]), .int .i64 2]) = Ending.returned (.tuple #[shapeV ⟨9, nm, sgn 0, false, 0⟩, .int .i64 ((2 : Nat) : Int)]) ∧ Below w.heap.size w W)) := Lib.hid (fun W h => ⟨rfl, h⟩)
  clear hgs hcell hx ht hv
  have cc0 : w.cell? a = some (.int .u32 (x : Int)) := hc0
  clear hcs hc0
  go_enter Tryd.func69, Tryd.ntmps69
  go_wp2_with fail
  have HBX : Hid (Below (w.heap.size + 1) (w.alloc (.cells #[.int .i64 9] 104)) (w.alloc (.cells #[.int .i64 9] 104)).drew) := Lib.hid (Below.refl _ _).drew
  go_region_held3 (fun w' => w'.cell? ⟨w.heap.size, 0, none⟩ = some (.int .i64 9)) (first | exact (paint_box HBX.out).1 | go_keep | exact (paint_box (HBX.out.trans (hb2.mono (by simp)))).1) (first | (go_at_call 82; refine (HUN.out _ (paint_box HBX.out).2).mono ?_; rintro e w2 ⟨rfl, hb2⟩))
  go_wp2_with fail
  go_ret2
  exact HE.out _ (paint_box (HBX.out.trans (hb2.mono (by simp)))).2

set_option maxRecDepth 100000 in
set_option maxHeartbeats 4000000 in
theorem guess_13a (tg : Nat → Nat) (v : Value) (x : Nat) (hx : ∀ c ∈ [x], c < 4294967296) (hl : [x].length ≤ 64) (w : World) (hv : RdC w v [x]) (hcs : TabsT tg w)
    (ht : x % 16 = 13) : Calls Tryd.prog 69 #[v] w (GuessEnd w [x]) := by
  obtain ⟨a, cap, rfl, hcap, hab, hcell⟩ := hv.first (List.cons_ne_nil _ _)
  have _ := hl
  have hc0 : w.cell? (a.add 0) = some (.int .u32 (x : Int)) := hcell 0 (by simp)
  have hx0 := hx x (by simp)
  have hand := and15 hx0
  rw [ht] at hand
  have hand16 := and16 hx0
  have hgs : guessC [x] = (rawIt x, 1) := by
    unfold guessC
    simp only [List.getD_cons_zero, List.getD_cons_succ, List.getD_nil, ht]
    simp [kindT]
  unfold GuessEnd
  rw [hgs]
  have hk := hcs.kinds.cell 13 (by decide)
  change w.cell? ⟨0, 13, none⟩ = some (.int .i64 0) at hk
  have hkl := lt_of_cell_tab hk
  have h1c : 1 ≤ cap := hcap
  have HE : Hid (∀ W, Below w.heap.size w W → (Ending.returned (.tuple #[.iface 114 (.agg #[.int .i64 0, .int .u32 (x : Int)]), .int .i64 1]) = Ending.returned (.tuple #[shapeV (rawIt x), .int .i64 ((1 : Nat) : Int)]) ∧ Below w.heap.size w W)) := Lib.hid (fun W h => ⟨rfl, h⟩)
  clear hgs hcell hx ht hv
  have cc0 : w.cell? a = some (.int .u32 (x : Int)) := hc0
  clear hcs hc0
  go_enter Tryd.func69, Tryd.ntmps69
  go_wp2_with fail
  go_ret2
  exact HE.out _ ((Below.refl _ _).alloc (Nat.le_refl _) _)

set_option maxRecDepth 100000 in
set_option maxHeartbeats 4000000 in
theorem guess_14a (tg : Nat → Nat) (v : Value) (x : Nat) (hx : ∀ c ∈ [x], c < 4294967296) (hl : [x].length ≤ 64) (w : World) (hv : RdC w v [x]) (hcs : TabsT tg w)
    (ht : x % 16 = 14) : Calls Tryd.prog 69 #[v] w (GuessEnd w [x]) := by
  obtain ⟨a, cap, rfl, hcap, hab, hcell⟩ := hv.first (List.cons_ne_nil _ _)
  have _ := hl
  have hc0 : w.cell? (a.add 0) = some (.int .u32 (x : Int)) := hcell 0 (by simp)
  have hx0 := hx x (by simp)
  have hand := and15 hx0
  rw [ht] at hand
  have hand16 := and16 hx0
  have hgs : guessC [x] = (rawIt x, 1) := by
    unfold guessC
    simp only [List.getD_cons_zero, List.getD_cons_succ, List.getD_nil, ht]
    simp [kindT]
  unfold GuessEnd
  rw [hgs]
  have hk := hcs.kinds.cell 14 (by decide)
  change w.cell? ⟨0, 14, none⟩ = some (.int .i64 0) at hk
  have hkl := lt_of_cell_tab hk
  have h1c : 1 ≤ cap := hcap
  have HE : Hid (∀ W, Below w.heap.size w W → (Ending.returned (.tuple #[.iface 114 (.agg #[.int .i64 0, .int .u32 (x : Int)]), .int .i64 1]) = Ending.returned (.tuple #[shapeV (rawIt x), .int .i64 ((1 : Nat) : Int)]) ∧ Below w.heap.size w W)) := Lib.hid (fun W h => ⟨rfl, h⟩)
  clear hgs hcell hx ht hv
  have cc0 : w.cell? a = some (.int .u32 (x : Int)) := hc0
  clear hcs hc0
  go_enter Tryd.func69, Tryd.ntmps69
  go_wp2_with fail
  go_ret2
  exact HE.out _ ((Below.refl _ _).alloc (Nat.le_refl _) _)

set_option maxRecDepth 100000 in
set_option maxHeartbeats 4000000 in
theorem guess_15a (tg : Nat → Nat) (v : Value) (x : Nat) (hx : ∀ c ∈ [x], c < 4294967296) (hl : [x].length ≤ 64) (w : World) (hv : RdC w v [x]) (hcs : TabsT tg w)
    (ht : x % 16 = 15) : Calls Tryd.prog 69 #[v] w (GuessEnd w [x]) := by
  obtain ⟨a, cap, rfl, hcap, hab, hcell⟩ := hv.first (List.cons_ne_nil _ _)
  have _ := hl
  have hc0 : w.cell? (a.add 0) = some (.int .u32 (x : Int)) := hcell 0 (by simp)
  have hx0 := hx x (by simp)
  have hand := and15 hx0
  rw [ht] at hand
  have hand16 := and16 hx0
  have hgs : guessC [x] = (rawIt x, 1) := by
    unfold guessC
    simp only [List.getD_cons_zero, List.getD_cons_succ, List.getD_nil, ht]
    simp [kindT]
  unfold GuessEnd
  rw [hgs]
  have hk := hcs.kinds.cell 15 (by decide)
  change w.cell? ⟨0, 15, none⟩ = some (.int .i64 0) at hk
  have hkl := lt_of_cell_tab hk
  have h1c : 1 ≤ cap := hcap
  have HE : Hid (∀ W, Below w.heap.size w W → (Ending.returned (.tuple #[.iface 114 (.agg #[.int .i64 0, .int .u32 (x : Int)]), .int .i64 1]) = Ending.returned (.tuple #[shapeV (rawIt x), .int .i64 ((1 : Nat) : Int)]) ∧ Below w.heap.size w W)) := Lib.hid (fun W h => ⟨rfl, h⟩)
  clear hgs hcell hx ht hv
  have cc0 : w.cell? a = some (.int .u32 (x : Int)) := hc0
  clear hcs hc0
  go_enter Tryd.func69, Tryd.ntmps69
  go_wp2_with fail
  go_ret2
  exact HE.out _ ((Below.refl _ _).alloc (Nat.le_refl _) _)
end Go.Proofs.YtllhcdkbgknjdaaDoor
