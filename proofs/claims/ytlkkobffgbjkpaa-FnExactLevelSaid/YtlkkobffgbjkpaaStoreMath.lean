/-
  The sum of cells and the bytes of a store, as plain functions: a sum tells any one cell; bytes that are turned in one place are those of no store.
-/
import Derived.Test.YtlkkobffgbjkpaaKit
namespace Go.Proofs.Ytlkkobffgbjkpaa
open Go

/-- One cell more into a sum. -/
def sumStep (h c : Nat) : Nat := ((h ^^^ c) * 16777619) % 4294967296
def sumFrom (h : Nat) (l : List Nat) : Nat := l.foldl sumStep h
def sumL (l : List Nat) : Nat := sumFrom 2166136261 l
theorem sumStep_lt (h c : Nat) : sumStep h c < 4294967296 := Nat.mod_lt _ (by decide)
theorem sumFrom_lt {h : Nat} (hh : h < 4294967296) : ∀ l : List Nat, sumFrom h l < 4294967296
  | [] => hh
  | c :: r => sumFrom_lt (sumStep_lt h c) r
theorem sumL_lt (l : List Nat) : sumL l < 4294967296 := by
  unfold sumL
  exact sumFrom_lt (by omega) l
theorem sumFrom_cons (h c : Nat) (r : List Nat) : sumFrom h (c :: r) = sumFrom (sumStep h c) r := by unfold sumFrom; rw [List.foldl_cons]
theorem sumFrom_append (h : Nat) (a b : List Nat) : sumFrom h (a ++ b) = sumFrom (sumFrom h a) b := by unfold sumFrom; rw [List.foldl_append]
theorem sumFrom_snoc (h : Nat) (a : List Nat) (c : Nat) : sumFrom h (a ++ [c]) = sumStep (sumFrom h a) c := by rw [sumFrom_append]; unfold sumFrom; rw [List.foldl_cons, List.foldl_nil]
/-- A factor that has an inverse. -/
theorem times_back {M p q m z : Nat} (h : p * q = m * M + 1) (hz : z < M) : (z * p % M) * q % M = z := by
  rw [Nat.mod_mul_mod, Nat.mul_assoc, h, Nat.mul_add, Nat.mul_one, ← Nat.mul_assoc, Nat.add_comm, Nat.add_mul_mod_self_right]
  exact Nat.mod_eq_of_lt hz
theorem times_same {M p q m x y : Nat} (h : p * q = m * M + 1) (hx : x < M) (hy : y < M) (e : x * p % M = y * p % M) : x = y := by
  rw [← times_back h hx, ← times_back h hy, e]
theorem times_inj {x y : Nat} (hx : x < 4294967296) (hy : y < 4294967296) (h : x * 16777619 % 4294967296 = y * 16777619 % 4294967296) : x = y :=
  times_same (q := 899433627) (m := 3513497) (by decide) hx hy h
theorem xor32 {a b : Nat} (ha : a < 4294967296) (hb : b < 4294967296) : a ^^^ b < 4294967296 := Nat.xor_lt_two_pow (n := 32) ha hb
theorem xor_back (a b : Nat) : a ^^^ b ^^^ b = a := by rw [Nat.xor_assoc, Nat.xor_self, Nat.xor_zero]
theorem sumStep_inj_h {h h' c : Nat} (hh : h < 4294967296) (hh' : h' < 4294967296) (hc : c < 4294967296) (e : sumStep h c = sumStep h' c) : h = h' := by
  have := times_inj (xor32 hh hc) (xor32 hh' hc) e
  rw [← xor_back h c, ← xor_back h' c, this]
theorem sumStep_inj_c {h c c' : Nat} (hh : h < 4294967296) (hc : c < 4294967296) (hc' : c' < 4294967296) (e : sumStep h c = sumStep h c') : c = c' := by
  have h2 := times_inj (xor32 hh hc) (xor32 hh hc') e
  rw [Nat.xor_comm h c, Nat.xor_comm h c'] at h2
  rw [← xor_back c h, ← xor_back c' h, h2]
theorem sumFrom_inj : ∀ (l : List Nat) {h h' : Nat}, h < 4294967296 → h' < 4294967296 → (∀ c ∈ l, c < 4294967296) → sumFrom h l = sumFrom h' l → h = h'
  | [], _, _, _, _, _, e => e
  | c :: r, h, h', hh, hh', hs, e => by
    have := sumFrom_inj r (sumStep_lt h c) (sumStep_lt h' c) (fun x hx => hs x (by simp [hx])) e
    exact sumStep_inj_h hh hh' (hs c (by simp)) this
/-- Cells of which just one is another one have another sum. -/
theorem sum_set {l : List Nat} {i x : Nat} (hi : i < l.length) (hs : ∀ c ∈ l, c < 4294967296) (hx : x < 4294967296) (hne : l[i] ≠ x) : sumL (l.set i x) ≠ sumL l := by
  intro e
  have h1 : l = l.take i ++ l[i] :: l.drop (i + 1) := by rw [← List.drop_eq_getElem_cons hi, List.take_append_drop]
  have h2 : l.set i x = l.take i ++ x :: l.drop (i + 1) := by rw [List.set_eq_take_append_cons_drop, if_pos hi]
  have hm := hs _ (List.getElem_mem hi)
  have hr : ∀ c ∈ l.drop (i + 1), c < 4294967296 := fun c hc => hs c (List.mem_of_mem_drop hc)
  have ht := sumFrom_lt (h := 2166136261) (by omega) (l.take i)
  unfold sumL at e
  rw [h2] at e
  have e2 : sumFrom 2166136261 l = sumFrom 2166136261 (l.take i ++ l[i] :: l.drop (i + 1)) := by rw [← h1]
  rw [e2, sumFrom_append, sumFrom_append, sumFrom_cons, sumFrom_cons] at e
  have e3 := sumFrom_inj _ (sumStep_lt _ _) (sumStep_lt _ _) hr e
  exact hne (sumStep_inj_c ht hx hm e3).symm

/-- A number of 32 bits as four bytes, the lowest first. -/
def fourB (c : Nat) : List Nat := [c % 256, c / 256 % 256, c / 65536 % 256, c / 16777216 % 256]
/-- Four bytes as a number. -/
def wordB (a b c d : Nat) : Nat := a + b * 256 + c * 65536 + d * 16777216
theorem wordB_four {c : Nat} (h : c < 4294967296) : wordB (c % 256) (c / 256 % 256) (c / 65536 % 256) (c / 16777216 % 256) = c := by unfold wordB; omega
theorem wordB_lt {a b c d : Nat} (ha : a < 256) (hb : b < 256) (hc : c < 256) (hd : d < 256) : wordB a b c d < 4294967296 := by unfold wordB; omega
/-- Bytes in fours. -/
def wordsB : List Nat → List Nat
  | a :: b :: c :: d :: r => wordB a b c d :: wordsB r
  | _ => []
theorem wordsB_four : ∀ l : List Nat, (∀ c ∈ l, c < 4294967296) → wordsB (l.flatMap fourB) = l
  | [], _ => rfl
  | c :: r, h => by
    show wordB _ _ _ _ :: wordsB (r.flatMap fourB) = _
    rw [wordB_four (h c (by simp)), wordsB_four r fun x hx => h x (by simp [hx])]
theorem four_len (l : List Nat) : (l.flatMap fourB).length = 4 * l.length := by
  induction l with
  | nil => rfl
  | cons c r ih => rw [List.flatMap_cons, List.length_append, ih, List.length_cons]; show 4 + _ = _; omega
/-- The bytes of right cells. -/
def imageL (l : List Nat) : List Nat := l.length / 64 :: (l ++ [sumL l]).flatMap fourB
theorem imageL_len (l : List Nat) : (imageL l).length = 5 + 4 * l.length := by
  unfold imageL
  rw [List.length_cons, four_len, List.length_append]
  show 4 * (l.length + 1) + 1 = _
  omega
/-- Whether bytes are those of a store. -/
def readOk (b : List Nat) : Bool := decide (5 ≤ b.length ∧ b.headD 0 ≤ 12 ∧ b.length = 5 + 256 * b.headD 0 ∧ sumL ((wordsB b.tail).take (64 * b.headD 0)) = (wordsB b.tail).getD (64 * b.headD 0) 0)
/-- The cells of bytes. -/
def readL (b : List Nat) : List Nat := if readOk b = true then (wordsB b.tail).take (64 * b.headD 0) else []
theorem wordsB_image (l : List Nat) (hs : ∀ c ∈ l, c < 4294967296) : wordsB (imageL l).tail = l ++ [sumL l] := by
  show wordsB ((l ++ [sumL l]).flatMap fourB) = _
  exact wordsB_four _ fun c hc => by
    rcases List.mem_append.1 hc with h | h
    · exact hs c h
    · rw [List.mem_singleton.1 h]; exact sumL_lt l
/-- A store comes back from its bytes. -/
theorem read_image {l : List Nat} (hs : ∀ c ∈ l, c < 4294967296) (hm : l.length % 64 = 0) (hl : l.length ≤ 768) : readOk (imageL l) = true ∧ readL (imageL l) = l := by
  have h1 : (imageL l).headD 0 = l.length / 64 := rfl
  have h2 : 64 * (l.length / 64) = l.length := by omega
  have h3 : readOk (imageL l) = true := by
    unfold readOk
    rw [h1, wordsB_image l hs, h2]
    refine decide_eq_true ⟨by rw [imageL_len]; omega, by omega, by rw [imageL_len]; omega, ?_⟩
    rw [List.take_left]
    simp
  refine ⟨h3, ?_⟩
  unfold readL
  rw [if_pos h3, h1, wordsB_image l hs, h2, List.take_left]
theorem wordB_inj {a b c d a' b' c' d' : Nat} (ha : a < 256) (hb : b < 256) (hc : c < 256) (ha' : a' < 256) (hb' : b' < 256) (hc' : c' < 256) (h : wordB a b c d = wordB a' b' c' d') : a = a' ∧ b = b' ∧ c = c' ∧ d = d' := by
  unfold wordB at h
  omega
/-- One byte turned turns one number. -/
theorem wordsB_set : ∀ (n : Nat) (b : List Nat) (i x : Nat), b.length = 4 * n → (∀ y ∈ b, y < 256) → x < 256 → (hi : i < b.length) → b[i] ≠ x →
    ∃ (hj : i / 4 < (wordsB b).length) (z : Nat), z < 4294967296 ∧ wordsB (b.set i x) = (wordsB b).set (i / 4) z ∧ (wordsB b)[i / 4] ≠ z
  | 0, [], i, x, _, _, _, hi, _ => absurd hi (Nat.not_lt_zero _)
  | 0, _ :: _, i, x, h, _, _, _, _ => by simp at h
  | n + 1, [], i, x, h, _, _, _, _ => by simp at h
  | n + 1, [a], i, x, h, _, _, _, _ => by simp at h; omega
  | n + 1, [a, b], i, x, h, _, _, _, _ => by simp at h; omega
  | n + 1, [a, b, c], i, x, h, _, _, _, _ => by simp at h; omega
  | n + 1, a :: b :: c :: d :: r, i, x, h, hs, hx, hi, hne => by
    have ha := hs a (by simp)
    have hb := hs b (by simp)
    have hc := hs c (by simp)
    have hd := hs d (by simp)
    match i, hi, hne with
    | 0, _, hne => exact ⟨by simp [wordsB], wordB x b c d, wordB_lt hx hb hc hd, rfl, fun e => hne (wordB_inj ha hb hc hx hb hc e).1⟩
    | 1, _, hne => exact ⟨by simp [wordsB], wordB a x c d, wordB_lt ha hx hc hd, rfl, fun e => hne (wordB_inj ha hb hc ha hx hc e).2.1⟩
    | 2, _, hne => exact ⟨by simp [wordsB], wordB a b x d, wordB_lt ha hb hx hd, rfl, fun e => hne (wordB_inj ha hb hc ha hb hx e).2.2.1⟩
    | 3, _, hne => exact ⟨by simp [wordsB], wordB a b c x, wordB_lt ha hb hc hx, rfl, fun e => hne (wordB_inj ha hb hc ha hb hc e).2.2.2⟩
    | i + 4, hi, hne =>
      obtain ⟨hj, z, hz, e1, e2⟩ := wordsB_set n r i x (by simp at h; omega) (fun y hy => hs y (by simp [hy])) hx (by simp at hi; omega) (by simpa using hne)
      have hq : (i + 4) / 4 = i / 4 + 1 := by omega
      refine ⟨by rw [hq]; show _ < (wordB a b c d :: wordsB r).length; rw [List.length_cons]; omega, z, hz, ?_, ?_⟩
      · rw [hq]
        show wordB a b c d :: wordsB (r.set i x) = wordB a b c d :: (wordsB r).set (i / 4) z
        rw [e1]
      · simp only [hq]
        exact e2
/-- Bytes of a store that are turned in one place are those of none. -/
theorem read_turned {l : List Nat} (hs : ∀ c ∈ l, c < 4294967296) (hm : l.length % 64 = 0) {i x : Nat} (hi : i < (imageL l).length) (hx : x < 256) (hne : (imageL l)[i] ≠ x) : readOk ((imageL l).set i x) = false := by
  refine decide_eq_false fun ⟨h5, h12, hlen, hsum⟩ => ?_
  rw [List.length_set, imageL_len] at hlen
  match i, hi, hne with
  | 0, _, hne =>
    have e : ((imageL l).set 0 x).headD 0 = x := rfl
    rw [e] at hlen
    exact hne (by show l.length / 64 = x; omega)
  | i + 1, hi, hne =>
    have e : ((imageL l).set (i + 1) x).headD 0 = l.length / 64 := rfl
    have et : ((imageL l).set (i + 1) x).tail = (imageL l).tail.set i x := rfl
    have h64 : 64 * (l.length / 64) = l.length := by omega
    rw [e, et, h64] at hsum
    have hlt : (imageL l).tail.length = 4 * (l.length + 1) := by rw [List.length_tail, imageL_len]; omega
    have hbytes : ∀ y ∈ (imageL l).tail, y < 256 := fun y hy => by
      have hy : y ∈ (l ++ [sumL l]).flatMap fourB := hy
      obtain ⟨c, _, h2⟩ := List.mem_flatMap.1 hy
      simp [fourB] at h2
      omega
    have hi2 : i < (imageL l).tail.length := by rw [hlt]; rw [imageL_len] at hi; omega
    obtain ⟨hj, z, hz, e1, e2⟩ := wordsB_set _ _ i x hlt hbytes hx hi2 hne
    rw [e1, wordsB_image l hs] at hsum
    simp only [wordsB_image l hs] at e2 hj
    rw [List.length_append, List.length_singleton] at hj
    by_cases hjl : i / 4 < l.length
    · rw [List.set_append_left _ _ hjl, List.take_left' (by rw [List.length_set]), List.getD_eq_getElem?_getD, List.getElem?_append_right (by rw [List.length_set]; omega)] at hsum
      rw [List.length_set, Nat.sub_self] at hsum
      rw [List.getElem_append_left hjl] at e2
      exact sum_set hjl hs hz e2 hsum
    · have hjl : i / 4 = l.length := by omega
      rw [hjl, List.set_append_right _ _ (Nat.le_refl _), Nat.sub_self, List.take_left] at hsum
      simp at hsum
      simp [hjl] at e2
      exact e2 hsum
end Go.Proofs.Ytlkkobffgbjkpaa
