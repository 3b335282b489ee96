/-
  Plain mathematics of texts in base 16, no program.
-/
namespace Go.Proofs.YtfldaknhdggdiaaDoor

/-- A digit in base 16. -/
def hdig (i : Nat) : UInt8 := if i < 10 then UInt8.ofNat (48 + i) else UInt8.ofNat (87 + i)
/-- The digits of u in base 16, the first ahead; one nought for 0. -/
def hexDigits (u : Nat) : List UInt8 :=
  if _h : u < 16 then [hdig u] else hexDigits (u / 16) ++ [hdig (u % 16)]
termination_by u
decreasing_by omega
theorem hex_small {u : Nat} (h : u < 16) : hexDigits u = [hdig u] := by rw [hexDigits, dif_pos h]
theorem hex_big {u : Nat} (h : ¬ u < 16) : hexDigits u = hexDigits (u / 16) ++ [hdig (u % 16)] := by rw [hexDigits, dif_neg h]
theorem hex_len : ∀ (k u : Nat), u < 16 ^ (k + 1) → (hexDigits u).length ≤ k + 1
  | 0, u, h => by rw [hex_small (by simpa using h)]; simp
  | k + 1, u, h => by
    by_cases h1 : u < 16
    · rw [hex_small h1]; simp
    · rw [hex_big h1, List.length_append]
      have := hex_len k (u / 16) (Nat.div_lt_of_lt_mul (by rw [Nat.pow_succ] at h; omega))
      simp
      omega
theorem hex_len8 {u : Nat} (h : u < 4294967296) : (hexDigits u).length ≤ 8 := hex_len 7 u (by simp only [Nat.reduceAdd, Nat.reducePow]; omega)
theorem hex_ne (u : Nat) : hexDigits u ≠ [] := by
  by_cases h : u < 16
  · rw [hex_small h]; simp
  · rw [hex_big h]; simp
/-- The digits, none for 0. -/
def hh (u : Nat) : List UInt8 := if u = 0 then [] else hexDigits u
theorem hh_zero : hh 0 = [] := rfl
theorem hh_pos {u : Nat} (h : u ≠ 0) : hh u = hexDigits u := by unfold hh; rw [if_neg h]
theorem hh_step {u : Nat} (h : u ≠ 0) : hh u = hh (u / 16) ++ [hdig (u % 16)] := by
  rw [hh_pos h]
  by_cases h16 : u < 16
  · rw [hex_small h16, show u / 16 = 0 by omega, hh_zero, Nat.mod_eq_of_lt h16]; rfl
  · rw [hex_big h16, hh_pos (by omega)]
theorem hh_length {u : Nat} (h : u < 4294967296) : (hh u).length ≤ 8 := by
  by_cases h0 : u = 0
  · subst h0; rw [hh_zero]; simp
  · rw [hh_pos h0]; exact hex_len8 h
theorem hdig_lt {i : Nat} (h : i < 16) : (hdig i).toNat = if i < 10 then 48 + i else 87 + i := by
  unfold hdig
  split
  · rw [UInt8.toNat_ofNat']; omega
  · rw [UInt8.toNat_ofNat']; omega
/-- The number that digits in base 16 are. -/
def hval1 (c : UInt8) : Nat := if c.toNat ≤ 57 then c.toNat - 48 else c.toNat - 87
def HexB (c : UInt8) : Prop := (48 ≤ c.toNat ∧ c.toNat ≤ 57) ∨ (97 ≤ c.toNat ∧ c.toNat ≤ 102)
def hval (l : List UInt8) : Nat := l.foldl (fun a c => 16 * a + hval1 c) 0
theorem hval_snoc (l : List UInt8) (c : UInt8) : hval (l ++ [c]) = 16 * hval l + hval1 c := by unfold hval; simp [List.foldl_append]
theorem hval1_lt {c : UInt8} (h : HexB c) : hval1 c < 16 := by unfold HexB at h; unfold hval1; split <;> omega
theorem hdig_hex {i : Nat} (h : i < 16) : HexB (hdig i) ∧ hval1 (hdig i) = i := by
  have := hdig_lt h
  unfold HexB hval1
  split at this <;> rw [this]
  · exact ⟨.inl ⟨by omega, by omega⟩, by rw [if_pos (by omega)]; omega⟩
  · exact ⟨.inr ⟨by omega, by omega⟩, by rw [if_neg (by omega)]; omega⟩
theorem hex_all (u : Nat) : ∀ c ∈ hexDigits u, HexB c := by
  induction u using Nat.strongRecOn with
  | _ u ih =>
    intro c hc
    by_cases h : u < 16
    · rw [hex_small h] at hc
      simp only [List.mem_cons, List.not_mem_nil, or_false] at hc
      subst hc; exact (hdig_hex h).1
    · rw [hex_big h, List.mem_append] at hc
      rcases hc with hc | hc
      · exact ih (u / 16) (by omega) c hc
      · simp only [List.mem_cons, List.not_mem_nil, or_false] at hc
        subst hc; exact (hdig_hex (Nat.mod_lt _ (by decide))).1
theorem hval_hex (u : Nat) : hval (hexDigits u) = u := by
  induction u using Nat.strongRecOn with
  | _ u ih =>
    by_cases h : u < 16
    · rw [hex_small h]
      show 16 * 0 + hval1 (hdig u) = u
      rw [(hdig_hex h).2]; omega
    · rw [hex_big h, hval_snoc, ih (u / 16) (by omega), (hdig_hex (Nat.mod_lt _ (by decide))).2]
      omega
theorem hex_inj {a b : Nat} (h : hexDigits a = hexDigits b) : a = b := by
  have := congrArg hval h
  rwa [hval_hex, hval_hex] at this
def sixteen : ByteArray := ⟨#[48, 49, 50, 51, 52, 53, 54, 55, 56, 57, 97, 98, 99, 100, 101, 102]⟩
theorem sixteen_one_fin : ∀ i : Fin 16, sixteen.extract i.val (i.val + 1) = ⟨#[hdig i.val]⟩ := by decide +kernel
theorem sixteen_one {i : Nat} (h : i < 16) : sixteen.extract i (i + 1) = ⟨#[hdig i]⟩ := sixteen_one_fin ⟨i, h⟩
/-- What reading a text in base 16 answers. -/
def ReadsHex (l : List UInt8) (n : Nat) (b : Bool) : Prop :=
  (b = true ∧ n < 4294967296 ∧ l = hexDigits n) ∨ (b = false ∧ n = 0 ∧ ∀ m : Nat, m < 4294967296 → l ≠ hexDigits m)
theorem ReadsHex.unique {l : List UInt8} {n m : Nat} {a b : Bool} (h : ReadsHex l n a) (k : ReadsHex l m b) : n = m ∧ a = b := by
  rcases h with ⟨rfl, h1, h2⟩ | ⟨rfl, rfl, h2⟩ <;> rcases k with ⟨rfl, k1, k2⟩ | ⟨rfl, rfl, k2⟩
  · exact ⟨hex_inj (h2.symm.trans k2), rfl⟩
  · exact absurd h2 (k2 _ h1)
  · exact absurd k2 (h2 _ k1)
  · exact ⟨rfl, rfl⟩
end Go.Proofs.YtfldaknhdggdiaaDoor
