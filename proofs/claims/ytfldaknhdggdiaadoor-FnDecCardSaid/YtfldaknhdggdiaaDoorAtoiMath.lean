/-
  Plain mathematics, no program: strconv.Atoi's reading of a number's own decimal text is that number; what it reads is an int.
-/
import Derived.Test.YtfldaknhdggdiaaDoorReadMath
import Derived.Lib.AtoiAll
namespace Go.Proofs.YtfldaknhdggdiaaDoor

theorem fold_ge : ∀ (l : List UInt8) (acc : Nat), acc ≤ l.foldl (fun a c => 10 * a + (c.toNat - 48)) acc
  | [], acc => Nat.le_refl _
  | c :: r, acc => by
    have := fold_ge r (10 * acc + (c.toNat - 48))
    simp only [List.foldl_cons]
    omega
theorem parse_fold : ∀ (l : List UInt8) (acc : Nat), (∀ c ∈ l, DigB c) → l.foldl (fun a c => 10 * a + (c.toNat - 48)) acc < 9223372036854775808 → Lib.parseUint10 acc l = .ok (l.foldl (fun a c => 10 * a + (c.toNat - 48)) acc)
  | [], acc, _, _ => by simp [Lib.parseUint10]
  | c :: r, acc, hd, hl => by
    have h1 := fold_ge r (10 * acc + (c.toNat - 48))
    have hc := hd c (by simp)
    unfold DigB at hc
    simp only [List.foldl_cons] at hl ⊢
    rw [Lib.parseUint10, if_pos hc, if_neg (by omega), if_neg (by omega), show acc * 10 + (c.toNat - 48) = 10 * acc + (c.toNat - 48) by omega]
    exact parse_fold r _ (fun x hx => hd x (by simp [hx])) hl
theorem parseMag_dec {u : Nat} (h : u < 9223372036854775808) : Lib.parseMag (Lib.decDigits u) = .ok u := by
  unfold Lib.parseMag
  rw [if_neg (decDigits_ne u)]
  have := parse_fold (Lib.decDigits u) 0 (decDigits_all u) (by have := dval_decDigits u; unfold dval at this; omega)
  rw [this]
  exact congrArg _ (dval_decDigits u)
theorem atoi_itoa {m : Int} (h0 : -9999999999 ≤ m) (h1 : m ≤ 9999999999) : Lib.atoiAll (Lib.itoa m) = .ok m := by
  by_cases hm : m < 0
  · have e : Lib.itoa m = 45 :: Lib.decDigits m.natAbs := by simp [Lib.itoa, hm]
    rw [e]
    simp only [Lib.atoiAll]
    rw [if_pos (by right; decide), parseMag_dec (by omega)]
    simp only
    rw [if_neg (by rintro ⟨h, _⟩; exact h (by decide)), if_neg (by omega), if_pos (by decide)]
    congr 1; omega
  · have e : Lib.itoa m = Lib.decDigits m.natAbs := by simp [Lib.itoa, hm]; congr 1; omega
    have hd := decDigits_all m.natAbs
    have hp := parseMag_dec (u := m.natAbs) (by omega)
    rw [e]
    generalize Lib.decDigits m.natAbs = l at hd hp
    cases l with
    | nil => simp [Lib.parseMag] at hp
    | cons c r =>
      have hc := hd c (by simp)
      unfold DigB at hc
      simp only [Lib.atoiAll]
      rw [if_neg (by omega), hp]
      simp only
      rw [if_neg (by omega), if_neg (by omega), if_neg (by omega)]
      congr 1; omega
theorem atoi_bounds {l : List UInt8} {v : Int} (h : Lib.atoiAll l = .ok v) : -9223372036854775808 ≤ v ∧ v ≤ 9223372036854775807 := by
  unfold Lib.atoiAll at h
  split at h
  · cases h
  · simp only at h
    split at h
    · cases h
    · cases h
    · split at h
      · cases h
      · split at h
        · cases h
        · injection h with h
          split at h <;> omega
theorem no_text {l : List UInt8} {v : Int} (hv : Lib.atoiAll l = .ok v) (h : -9999999999 ≤ v → v ≤ 9999999999 → l ≠ Lib.itoa v) : ∀ m : Int, -9999999999 ≤ m → m ≤ 9999999999 → l ≠ Lib.itoa m := fun m h0 h1 e => by
  have := atoi_itoa h0 h1
  rw [← e, hv] at this
  injection this with this
  subst this
  exact h h0 h1 e
end Go.Proofs.YtfldaknhdggdiaaDoor
