/-
  FieldOk, of the program and of its model, tells whether a field is a name's only one; and the laws of UnpackOne and FieldOk.
-/
import Derived.Test.YtaagaimafhadeaaDoorUnpack
namespace Go.Proofs.YtaagaimafhadeaaDoor
open Go.RowKit Go

theorem rdn_one (w : World) (t : TypeId) (f : Nat) : RdN (w.alloc (.cells #[.int .u32 (f : Int)] t)) (.slice (some ⟨w.heap.size, 0, none⟩) 1 1) [f] := by
  refine ⟨_, _, rfl, by simp, fun i hi => ?_⟩
  obtain rfl : i = 0 := by simpa using hi
  refine ⟨_, rfl, by simp, ?_⟩
  rw [addr_lit]
  exact World.cell?_alloc_mark w #[.int .u32 (f : Int)] t (0, 0) 0

set_option maxHeartbeats 2000000 in
theorem impl_fieldok (f : Nat) (hf : f < 4294967296) (w : World) (hcs : Codes w) :
    Calls Tryd.prog 15 #[.int .u32 f] w fun e w' => e = .returned (.bool (fieldsOk [f])) ∧ Below w.heap.size w w' := by
  have hb1 : Below w.heap.size w (w.alloc (.cells #[.int .u32 (f : Int)] 31)) := (Below.refl _ _).alloc (Nat.le_refl _) _
  have HU := Lib.hid (impl_unpack _ [f] (fun x hx => by obtain rfl : x = f := by simpa using hx
                                                        exact hf) _ (rdn_one w 31 f) (hcs.below hb1))
  have HB := Lib.hid hb1
  unfold UnpEnd at HU
  obtain ⟨u, hu⟩ : ∃ u : ByteArray, (⟨(unpacked [f]).toArray⟩ : ByteArray) = u := ⟨_, rfl⟩
  obtain ⟨q, hq⟩ : ∃ q, fieldsOk [f] = q := ⟨_, rfl⟩
  rw [hu, hq] at HU
  rw [hq]
  clear hu hq hcs hb1
  go_enter Tryd.func15, Tryd.ntmps15
  go_wp2_with fail
  refine HU.out.mono ?_
  rintro e w2 ⟨rfl, hb2⟩
  have HB2 := Lib.hid (HB.out.trans (hb2.mono HB.out.size))
  clear hb2 HU
  go_wp2_with fail
  go_ret
  exact ⟨rfl, HB2.out⟩

theorem one_of_len {ls : List Nat} (h : ls.length = 1) : ∃ x, ls = [x] := by
  match ls, h with
  | [x], _ => exact ⟨x, rfl⟩

set_option maxHeartbeats 2000000 in
theorem spec_fieldok (f : Nat) (hf : f < 4294967296) (w : World) :
    Calls Tryd.prog 19 #[.int .u32 f] w fun e w' => e = .returned (.bool (fieldsOk [f])) ∧ Below w.heap.size w w' := by
  have HU := Lib.hid (spec_unpackone f hf w)
  have HP : ∀ W, Hid (Calls Tryd.prog 24 #[.string ⟨(unpOne f).toArray⟩] W (NewN W (packs (unpOne f)))) := fun W => Lib.hid (spec_pack ⟨(unpOne f).toArray⟩ (by have := unpOne_len f; show (unpOne f).length ≤ _; omega) W)
  obtain ⟨u, hu⟩ : ∃ u : ByteArray, (⟨(unpOne f).toArray⟩ : ByteArray) = u := ⟨_, rfl⟩
  have hpl := (packs_len (unpOne f)).2
  have he := fieldsOk_single f
  obtain ⟨ls, hls⟩ : ∃ ls, packs (unpOne f) = ls := ⟨_, rfl⟩
  rw [hu] at HU HP
  rw [hls] at HP hpl he
  rw [he]
  obtain ⟨q, hq⟩ : ∃ q, decide (ls = [f]) = q := ⟨_, rfl⟩
  have HQ := Lib.hid hq
  rw [hq]
  clear hu hls he hq
  go_enter Tryd.func19, Tryd.ntmps19
  go_wp2_with fail
  refine HU.out.mono ?_
  rintro e w1 ⟨rfl, hb1⟩
  have HB1 := Lib.hid hb1
  clear hb1 HU
  go_wp2_with fail
  refine (HP _).out.mono ?_
  rintro e w2 ⟨v, rfl, ho2, hb2⟩
  have HB2 := Lib.hid (HB1.out.trans (hb2.mono HB1.out.size))
  have hr := RdN.of_own ho2 (by omega)
  clear ho2 hb2
  obtain ⟨A, cap, rfl, -, hc⟩ := hr
  by_cases h1 : ls.length = 1
  · obtain ⟨x, rfl⟩ := one_of_len h1
    obtain ⟨a, rfl, -, hc0⟩ := hc 0 (by simp)
    have hc1 : w2.cell? a = some (.int .u32 (x : Int)) := by
      have : a.add 0 = a := by simp [Addr.add]
      rw [this] at hc0
      exact hc0
    clear h1 hc hc0 HP
    by_cases hx : x = f
    · subst hx
      have hd : q = true := HQ.out.symm.trans (decide_eq_true rfl)
      have HD := Lib.hid hd
      clear hd HQ
      go_wp2_with fail
      go_ret
      exact ⟨by rw [HD.out]; simp, HB2.out⟩
    · have hd : q = false := HQ.out.symm.trans (decide_eq_false fun e => hx (by injection e))
      have HD := Lib.hid hd
      have hne := u32_ne hx
      clear hx hd HQ
      go_wp2_with fail
      go_ret
      exact ⟨by rw [HD.out]; simp, HB2.out⟩
  · have hd : q = false := HQ.out.symm.trans (decide_eq_false fun e => h1 (by rw [e]; rfl))
    have HD := Lib.hid hd
    have hne : ((ls.length : Int) == 1) = false := by simp; omega
    clear h1 hd hc HP HQ
    go_wp2_with fail
    go_ret
    exact ⟨by rw [HD.out]; rfl, HB2.out⟩

theorem law_unpackone (x : Int) (h0 : 0 ≤ x) (h1 : x ≤ 4294967295) (w : World) (hcs : Codes w) : Calls Tryd.prog 7 #[.int .u32 x] w fun e w' => e = .returned (.bool true) ∧ Below w.heap.size w w' := by
  obtain ⟨f, rfl⟩ : ∃ f : Nat, x = f := ⟨x.toNat, by omega⟩
  have HS := Lib.hid (spec_unpackone f (by omega) w)
  have HI : ∀ W, Below w.heap.size w W → Hid (Calls Tryd.prog 22 #[.int .u32 (f : Int)] W fun e w' => e = .returned (.string ⟨(unpOne f).toArray⟩) ∧ Below W.heap.size W w') := fun W hb => Lib.hid (impl_unpackone f (by omega) W (hcs.below hb))
  obtain ⟨u, hu⟩ : ∃ u : ByteArray, (⟨(unpOne f).toArray⟩ : ByteArray) = u := ⟨_, rfl⟩
  rw [hu] at HS HI
  clear hu hcs h0 h1
  go_enter Tryd.func7, Tryd.ntmps7
  go_wp2_with fail
  refine HS.out.mono ?_
  rintro e w1 ⟨rfl, hb1⟩
  go_wp2_with fail
  refine (HI _ hb1).out.mono ?_
  rintro e w2 ⟨rfl, hb2⟩
  have HB := Lib.hid (hb1.trans (hb2.mono hb1.size))
  clear hb1 hb2
  go_wp2_with fail
  go_ret
  exact ⟨rfl, HB.out⟩

theorem law_fieldok (x : Int) (h0 : 0 ≤ x) (h1 : x ≤ 4294967295) (w : World) (hcs : Codes w) : Calls Tryd.prog 8 #[.int .u32 x] w fun e w' => e = .returned (.bool true) ∧ Below w.heap.size w w' := by
  obtain ⟨f, rfl⟩ : ∃ f : Nat, x = f := ⟨x.toNat, by omega⟩
  have HS := Lib.hid (spec_fieldok f (by omega) w)
  have HI : ∀ W, Below w.heap.size w W → Hid (Calls Tryd.prog 15 #[.int .u32 (f : Int)] W fun e w' => e = .returned (.bool (fieldsOk [f])) ∧ Below W.heap.size W w') := fun W hb => Lib.hid (impl_fieldok f (by omega) W (hcs.below hb))
  obtain ⟨u, hu⟩ : ∃ u, fieldsOk [f] = u := ⟨_, rfl⟩
  rw [hu] at HS HI
  clear hu hcs h0 h1
  go_enter Tryd.func8, Tryd.ntmps8
  go_wp2_with fail
  refine HS.out.mono ?_
  rintro e w1 ⟨rfl, hb1⟩
  go_wp2_with fail
  refine (HI _ hb1).out.mono ?_
  rintro e w2 ⟨rfl, hb2⟩
  have HB := Lib.hid (hb1.trans (hb2.mono hb1.size))
  clear hb1 hb2
  have hbb : (u != u) = false := by cases u <;> rfl
  go_wp2_with fail
  go_ret
  exact ⟨rfl, HB.out⟩
end Go.Proofs.YtaagaimafhadeaaDoor
