/-
  laws.FnExactUnpack answers true at every list.
-/
import Derived.Test.YtaagaimafhadeaaDoorFieldOk
import Derived.ChangeSlices
namespace Go.Proofs.YtaagaimafhadeaaDoor
open Go.ChangeShapes Go.WideShapes Go.ChangeAt Go.RowKit Go

theorem lt_of_cell_n {w : World} {a : Addr} {v : Value} (h : w.cell? a = some v) : a.block < w.heap.size := by
  rcases Nat.lt_or_ge a.block w.heap.size with hl | hl
  · exact hl
  · have e : w.heap[a.block]? = none := Array.getElem?_eq_none hl
    simp [World.cell?, e] at h
/-- A list that comes in can be read. -/
theorem nums_of {H : Type} {enc : TypeId × Value → H} {P : Program} {W : World} {t e : TypeId} {A : Option Addr} {len cap : Nat} {d : DataW H} {p : List MemPlace}
    (ht : P.underlying t = some (.slice e)) (he : P.underlying e = some (.int .u32)) (hc : P.cellsOf e = 1) (h : DataW.Trod enc P W 0 (fun _ => true) true t (.slice A len cap) d p) :
    len ≤ 9223372036854775807 ∧ (len ≤ 4611686018427387904 → ∃ xs : List Nat, xs.length = len ∧ (∀ x ∈ xs, x < 4294967296) ∧ RdN W (.slice A len cap) xs) := by
  obtain ⟨fuel, hf⟩ := h
  rcases open_ints ht he hc hf with ⟨hcs, -⟩ | ⟨a, len', cap', zs, hcs, -, hl, hm, hz, -, hcell, hwz⟩
  · have hcs' : (Value.slice A len cap) = .slice none 0 0 := by simpa [Value.cells] using hcs
    injection hcs' with h1 h2 h3
    subst h1 h2 h3
    exact ⟨by omega, fun _ => ⟨[], rfl, fun x hx => by simp at hx, none, 0, rfl, by simp, fun i hi => by simp at hi⟩⟩
  · have hcs' : (Value.slice A len cap) = .slice (some a) len' cap' := by simpa [Value.cells] using hcs
    injection hcs' with h1 h2 h3
    subst h1 h2 h3
    unfold maxLen at hm
    simp at hz
    have hb : ∀ j (hj : j < len), 0 ≤ zs[j]'(by omega) ∧ zs[j]'(by omega) < 4294967296 := fun j hj => by
      have hw := hwz _ (List.getElem_mem (show j < zs.length by omega))
      have : 0 ≤ zs[j]'(by omega) ∧ zs[j]'(by omega) ≤ 4294967295 := by
        simpa [Lit.wf, IntKind.min, IntKind.max, IntKind.signed, IntKind.bits] using hw
      omega
    refine ⟨by omega, fun h62 => ⟨(zs.take len).map Int.toNat, by simp; omega, ?_, some a, cap, by simp; omega, by simp; omega, fun i hi => ⟨a, rfl, ?_, ?_⟩⟩⟩
    · intro x hx
      obtain ⟨j, hj, rfl⟩ := List.getElem_of_mem hx
      simp at hj ⊢
      have := hb j (by omega)
      omega
    · have h1 := lt_of_cell_n (hcell i (by simp at hi; omega))
      rw [addr_addb] at h1
      exact h1
    · have hi2 : i < len := by simp at hi; omega
      have h1 := hcell i (by omega)
      have h2 := hb i hi2
      rw [h1]
      unfold u32v
      simp [List.getD, List.getElem?_eq_getElem (show i < zs.length by omega)]
      omega

set_option maxHeartbeats 2000000 in
theorem law_FnExactUnpack (A : Option Addr) (len cap : Nat) (w : World) (h0 : len ≤ 9223372036854775807) (hx : len ≤ 4611686018427387904 → ∃ xs : List Nat, xs.length = len ∧ (∀ x ∈ xs, x < 4294967296) ∧ RdN w (.slice A len cap) xs) (hcs : Codes w) :
    Calls Tryd.prog 9 #[.slice A len cap] w fun e w' => e = .returned (.bool true) ∧ Below w.heap.size w w' := by
  by_cases hs : len ≤ 1048576
  · have i1 : (len : Int) ≤ 1048576 := by omega
    obtain ⟨ls, hlen, hls, hr⟩ := hx (by omega)
    have HR := Lib.hid hr
    have HX := Lib.hid hls
    have HT : ∀ W, Below w.heap.size w W → Hid (Calls Tryd.prog 29 #[.slice A len cap] W (NewN W ls)) := fun W hb => Lib.hid (tou_any _ ls (by omega) W (hr.below hb))
    have HI : ∀ v W, Below w.heap.size w W → RdN W v ls → Hid (Calls Tryd.prog 14 #[v] W fun e w' => e = UnpEnd ls ∧ Below W.heap.size W w') := fun v W hb hr => Lib.hid (impl_unpack v ls hls W hr (hcs.below hb))
    have HS : ∀ v W, RdN W v ls → Hid (Calls Tryd.prog 17 #[v] W fun e w' => e = UnpEnd ls ∧ Below W.heap.size W w') := fun v W hr => Lib.hid (spec_unpack v ls hls W hr)
    unfold UnpEnd at HI HS
    obtain ⟨u, hu⟩ : ∃ u : ByteArray, (⟨(unpacked ls).toArray⟩ : ByteArray) = u := ⟨_, rfl⟩
    obtain ⟨q, hq⟩ : ∃ q, fieldsOk ls = q := ⟨_, rfl⟩
    rw [hu, hq] at HI HS
    have hqq : (q != q) = false := by cases q <;> rfl
    clear hr hls hx hcs hu hq
    go_enter Tryd.func9, Tryd.ntmps9
    go_wp2_with fail
    refine (HT _ (Below.refl _ _)).out.mono ?_
    rintro e w1 ⟨v1, rfl, ho1, hb1⟩
    have HS1 := HS v1 w1 (RdN.of_own ho1 (by omega))
    clear ho1
    go_wp2_with fail
    refine HS1.out.mono ?_
    rintro e w2 ⟨rfl, hb2⟩
    have hb02 := hb1.trans (hb2.mono hb1.size)
    clear hb1 hb2 HS1
    go_wp2_with fail
    refine (HT _ hb02).out.mono ?_
    rintro e w3 ⟨v3, rfl, ho3, hb3⟩
    have hb03 := hb02.trans (hb3.mono hb02.size)
    have HR3 := Lib.hid (RdN.of_own ho3 (by omega))
    have HI3 := HI v3 w3 hb03 HR3.out
    have HB03 := Lib.hid hb03
    clear hb02 hb3 hb03 ho3
    go_wp2_with fail
    refine HI3.out.mono ?_
    rintro e w4 ⟨rfl, hb4⟩
    have hb04 := HB03.out.trans (hb4.mono HB03.out.size)
    have HR4 := Lib.hid (HR3.out.below hb4)
    clear hb4 HI3 HR3
    go_wp2_with fail
    refine (HT _ hb04).out.mono ?_
    rintro e w5 ⟨v5, rfl, ho5, hb5⟩
    have hE := eqn_any v3 v5 ls ls w5 (HR4.out.below hb5) (RdN.of_own ho5 (by omega))
    rw [decide_eq_true rfl] at hE
    have HE := Lib.hid hE
    have HB05 := Lib.hid (hb04.trans (hb5.mono hb04.size))
    clear hE hb04 hb5 ho5 HR4
    go_wp2_with fail
    refine HE.out.mono ?_
    rintro e w6 ⟨rfl, d, rfl⟩
    go_wp2_with fail
    go_ret
    exact ⟨rfl, below_drewN HB05.out d⟩
  · have i1 : (1048576 : Int) < (len : Int) := by omega
    clear hx
    go_enter Tryd.func9, Tryd.ntmps9
    go_wp2_with fail
    go_ret
    exact ⟨rfl, Below.refl _ _⟩
end Go.Proofs.YtaagaimafhadeaaDoor
