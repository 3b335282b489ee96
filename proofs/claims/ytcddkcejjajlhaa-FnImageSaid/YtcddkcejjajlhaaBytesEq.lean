/-
  bytes.Equal at lists of bytes.
-/
import Derived.Test.YtcddkcejjajlhaaB8
import Derived.Laws.BytesArg
import Derived.Laws.IdiomStrings
import Derived.WideShapes
namespace Go.Proofs.Ytcddkcejjajlhaa
open Go.RowKit Go

def bstr (xs : List Nat) : ByteArray := ⟨(xs.map UInt8.ofNat).toArray⟩
theorem bstr_inj {xs ys : List Nat} (hx : ∀ y ∈ xs, y < 256) (hy : ∀ y ∈ ys, y < 256) (h : bstr xs = bstr ys) : xs = ys := by
  unfold bstr at h
  injection h with h
  have h2 : xs.map UInt8.ofNat = ys.map UInt8.ofNat := by simpa using h
  have e : ∀ l : List Nat, (∀ y ∈ l, y < 256) → (l.map UInt8.ofNat).map UInt8.toNat = l := fun l hl => by
    rw [List.map_map]
    refine (List.map_congr_left fun y hy => ?_).trans (List.map_id l)
    exact UInt8.toNat_ofNat_of_lt' (hl y hy)
  rw [← e xs hx, h2, e ys hy]
theorem rd_string {P : Program} {w : World} {src dst e : TypeId} {v : Value} {xs : List Nat} (hs : P.underlying src = some (.slice e)) (he : P.underlying e = some (.int .u8)) (hd : P.underlying dst = some .string)
    (h : RdM w v xs) (hx : ∀ y ∈ xs, y < 256) : (convert src dst v).run P w = .ok (.string (bstr xs)) w := by
  obtain ⟨A, cap, rfl, hl, hc⟩ := h
  cases A with
  | none =>
    have h0 : xs = [] := by
      rcases Nat.eq_zero_or_pos xs.length with h0 | h0
      · exact List.eq_nil_of_length_eq_zero h0
      · obtain ⟨a, ha, -⟩ := hc 0 h0
        cases ha
    subst h0
    exact run_convert_bytes_nil w src e hs he 0 cap dst hd
  | some a =>
    have hll : (xs.map UInt8.ofNat).length = xs.length := List.length_map ..
    have := run_convert_bytes_back (P := P) w src dst e a cap (xs.map UInt8.ofNat) hs he hd fun j hj => by
      obtain ⟨b, hb, -, hcell⟩ := hc j (by omega)
      injection hb with hb
      subst hb
      rw [hcell]
      have : (UInt8.ofNat xs[j]).toNat = xs[j] := UInt8.toNat_ofNat_of_lt' (hx _ (List.getElem_mem _))
      simp [b8v, this]
    rw [hll] at this
    exact this
theorem bytes_ne (a b : ByteArray) (h : a ≠ b) : (a.toList == b.toList) = false := by
  rw [ByteArray.toList_eq, ByteArray.toList_eq]
  simpa using fun e => h (Go.WideShapes.bytes_inj e)
theorem bytes_equal (a b : Value) (xs ys : List Nat) (hx : ∀ y ∈ xs, y < 256) (hy : ∀ y ∈ ys, y < 256) (w : World) (ha : RdM w a xs) (hb : RdM w b ys) :
    Calls Try.prog 63 #[a, b] w fun e w' => e = .returned (.bool (decide (xs = ys))) ∧ w = w' := by
  have s1 := rd_string (P := Try.prog) (src := 22) (dst := 9) Try.underlying22 Try.underlying5 Try.underlying9 ha hx
  have s2 := rd_string (P := Try.prog) (src := 22) (dst := 9) Try.underlying22 Try.underlying5 Try.underlying9 hb hy
  obtain ⟨A, c, rfl⟩ := ha.form
  obtain ⟨B, d, rfl⟩ := hb.form
  have hd : decide (xs = ys) = decide (bstr xs = bstr ys) := decide_eq_decide.2 ⟨fun h => by rw [h], bstr_inj hx hy⟩
  rw [hd]
  clear hd ha hb hx hy
  go_enter Try.func63, Try.ntmps63
  go_wp2
  go_ret
  refine ⟨?_, rfl⟩
  show Ending.returned (.bool ((bstr xs).toList == (bstr ys).toList)) = _
  by_cases h : bstr xs = bstr ys
  · rw [h]
    simp
  · rw [decide_eq_false h, bytes_ne _ _ h]
end Go.Proofs.Ytcddkcejjajlhaa
