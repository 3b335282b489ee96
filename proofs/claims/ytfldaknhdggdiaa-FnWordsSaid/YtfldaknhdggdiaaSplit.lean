/-
  Plain mathematics, no program: the parts of a text between the bytes that cut it; its lines; its words.
-/
import Derived.WalkKit
import Derived.Laws.RangeAny
import Derived.Lib.DecodeN
namespace Go.Proofs.Ytfldaknhdggdiaa

/-- The parts between the bytes that cut, empty ones too; there is always one. -/
def splitB (p : UInt8 → Bool) : List UInt8 → List (List UInt8)
  | [] => [[]]
  | c :: r => if p c then [] :: splitB p r else match splitB p r with
    | [] => [[c]]
    | x :: xs => (c :: x) :: xs
theorem splitB_ne (p : UInt8 → Bool) : ∀ l, splitB p l ≠ []
  | [] => by simp [splitB]
  | c :: r => by
    unfold splitB
    split
    · simp
    · split <;> simp
theorem splitB_none (p : UInt8 → Bool) : ∀ l : List UInt8, (∀ c ∈ l, p c = false) → splitB p l = [l]
  | [], _ => rfl
  | c :: r, h => by
    rw [splitB, if_neg (by rw [h c (by simp)]; simp), splitB_none p r (fun x hx => h x (by simp [hx]))]
theorem splitB_cut (p : UInt8 → Bool) : ∀ (a : List UInt8) (c : UInt8) (r : List UInt8), (∀ x ∈ a, p x = false) → p c = true → splitB p (a ++ c :: r) = a :: splitB p r
  | [], c, r, _, hc => by rw [List.nil_append, splitB, if_pos hc]
  | x :: a, c, r, ha, hc => by
    rw [List.cons_append, splitB, if_neg (by rw [ha x (by simp)]; simp), splitB_cut p a c r (fun y hy => ha y (by simp [hy])) hc]
theorem splitB_length (p : UInt8 → Bool) : ∀ l : List UInt8, (splitB p l).length ≤ l.length + 1
  | [] => by simp [splitB]
  | c :: r => by
    have := splitB_length p r
    rw [splitB]
    split
    · simp; omega
    · split
      · simp
      · rename_i x xs h
        rw [h] at this
        simp at this ⊢; omega

/-- What lies from a place on, up to a place at which it is cut. -/
theorem split_at {p : UInt8 → Bool} {l : List UInt8} {f a : Nat} (hfa : f ≤ a) (ha : a < l.length) (hn : ∀ j (h : j < l.length), f ≤ j → j < a → p l[j] = false) (hc : p l[a] = true) : splitB p (l.drop f) = (l.drop f).take (a - f) :: splitB p (l.drop (a + 1)) := by
  have e : l.drop f = (l.drop f).take (a - f) ++ l[a] :: l.drop (a + 1) := by
    conv => lhs; rw [← List.take_append_drop (a - f) (l.drop f)]
    rw [List.drop_drop, show f + (a - f) = a by omega, List.drop_eq_getElem_cons ha]
  conv => lhs; rw [e]
  refine splitB_cut p _ _ _ (fun x hx => ?_) hc
  obtain ⟨i, hi, rfl⟩ := List.getElem_of_mem hx
  simp at hi
  rw [List.getElem_take, List.getElem_drop]
  exact hn _ _ (by omega) (by omega)
theorem split_rest {p : UInt8 → Bool} {l : List UInt8} {f : Nat} (hn : ∀ j (h : j < l.length), f ≤ j → p l[j] = false) : splitB p (l.drop f) = [l.drop f] := by
  refine splitB_none p _ (fun x hx => ?_)
  obtain ⟨i, hi, rfl⟩ := List.getElem_of_mem hx
  rw [List.getElem_drop]
  exact hn _ _ (by omega)

/-- A sign of several bytes: none of them is below 128. -/
theorem decode_cont (s : ByteArray) (i : Nat) (_ : i < s.size) : ∀ j (hj : j < s.size), i < j → j < i + (Utf8.decode s i).2 → 128 ≤ s[j].toNat := by
  intro j hj h1 h2
  have g : ∀ k (hk : k < s.size), (s.get! k) = s[k] := fun k hk => by
    show s.data[k]! = s.data[k]
    exact getElem!_pos s.data k hk
  rw [Lib.decode_at] at h2
  have c1 : j = i + 1 ∨ j = i + 2 ∨ j = i + 3 ∨ i + 4 ≤ j := by omega
  have hn : ∀ b0 b1 b2 b3, (Lib.decodeN (s.size - i) b0 b1 b2 b3).2 = 1 ∨ ((Lib.decodeN (s.size - i) b0 b1 b2 b3).2 = 2 ∧ b1 / 64 = 2) ∨ ((Lib.decodeN (s.size - i) b0 b1 b2 b3).2 = 3 ∧ b1 / 64 = 2 ∧ b2 / 64 = 2) ∨ ((Lib.decodeN (s.size - i) b0 b1 b2 b3).2 = 4 ∧ b1 / 64 = 2 ∧ b2 / 64 = 2 ∧ b3 / 64 = 2) := by
    intro b0 b1 b2 b3
    unfold Lib.decodeN
    repeat' split
    all_goals simp_all
  rcases hn (s.get! i).toNat (s.get! (i + 1)).toNat (s.get! (i + 2)).toNat (s.get! (i + 3)).toNat with e | ⟨e, e1⟩ | ⟨e, e1, e2⟩ | ⟨e, e1, e2, e3⟩ <;> rw [e] at h2
  · omega
  · obtain rfl : j = i + 1 := by omega
    rw [g _ hj] at e1; omega
  · rcases c1 with rfl | rfl | rfl | c1
    · rw [g _ hj] at e1; omega
    · rw [g _ hj] at e2; omega
    · omega
    · omega
  · rcases c1 with rfl | rfl | rfl | c1
    · rw [g _ hj] at e1; omega
    · rw [g _ hj] at e2; omega
    · rw [g _ hj] at e3; omega
    · omega
theorem decode_fits (s : ByteArray) (i : Nat) (h : i < s.size) : i + (Utf8.decode s i).2 ≤ s.size := by
  rw [Lib.decode_at]
  have hn : ∀ n b0 b1 b2 b3, 1 ≤ n → (Lib.decodeN n b0 b1 b2 b3).2 ≤ n := by
    intro n b0 b1 b2 b3 h1
    unfold Lib.decodeN
    repeat' split
    all_goals simp_all
    all_goals omega
  have := hn (s.size - i) (s.get! i).toNat (s.get! (i + 1)).toNat (s.get! (i + 2)).toNat (s.get! (i + 3)).toNat (by omega)
  omega
end Go.Proofs.Ytfldaknhdggdiaa
