/-
  Pack of the model answers a new list: the fields of a name.
-/
import Derived.Test.YtllhcdkbgknjdaaPackOne
import Derived.Test.YtllhcdkbgknjdaaToU
import Derived.OwnWalk
namespace Go.Proofs.Ytllhcdkbgknjdaa
open Go.RowKit Go

theorem own_base {w : World} {b b' : Nat} {e : TypeId} {size : Nat} {v : Value} {n : Nat} {xs : List Value} (h : w.ownsRow b e size v n xs) (hb : b' ≤ b) : w.ownsRow b' e size v n xs := by
  refine ⟨h.1, ?_⟩
  rcases h.2 with h2 | ⟨g, cap, cur, hv, hg, r⟩
  · exact .inl h2
  · exact .inr ⟨g, cap, cur, hv, by omega, r⟩
theorem rest_list (t : ByteArray) (q : Nat) : (t.extract q t.size).data.toList = t.data.toList.drop q := by
  have h : (t.extract q t.size).data = t.data.extract q t.size := ByteArray.data_extract
  rw [h, Array.toList_extract]
  show ((t.data.toList.drop q).take (t.size - q)) = _
  rw [List.take_of_length_le]
  rw [List.length_drop]
  exact Nat.le_refl _
theorem rest_size (t : ByteArray) (q : Nat) : (t.extract q t.size).size = t.size - q := by
  show (t.extract q t.size).data.toList.length = _
  rw [rest_list, List.length_drop]
  rfl
theorem str_empty {t : ByteArray} (h : t.size = 0) : t.data.toList = [] := List.eq_nil_of_length_eq_zero h
theorem str_some {t : ByteArray} (h : t.size ≠ 0) : t.data.toList ≠ [] := fun e => h (by show t.data.toList.length = 0; rw [e]; rfl)
/-- Where packing a name stands: 'pre' is packed, 'r' is left. -/
structure PackAt (l : List UInt8) (pre : List Nat) (r : List UInt8) : Prop where
  eq : packL l = pre ++ packL r
  len : pre.length + r.length ≤ l.length
theorem PackAt.start (l : List UInt8) : PackAt l [] l := ⟨rfl, by simp⟩
theorem PackAt.done {l : List UInt8} {pre : List Nat} {r : List UInt8} (h : PackAt l pre r) (hr : r = []) : packL l = pre := by
  rw [h.eq, hr, packL_nil, List.append_nil]
theorem PackAt.more {l : List UInt8} {pre : List Nat} {r : List UInt8} (h : PackAt l pre r) (hr : r ≠ []) : PackAt l (pre ++ [(fillN 28 r).1]) (r.drop (fillN 28 r).2) := by
  have hp := fillN_pos hr
  have hl := fillN_len r 28
  refine ⟨?_, ?_⟩
  · rw [h.eq, packL_go hr, List.append_assoc]
    rfl
  · have := h.len
    rw [List.length_append, List.length_drop]
    simp
    omega

/-- The bytes left of a name: their block, and what can be read. -/
def LeftAt (g : Nat) (wr : World) (v : Value) (r : List UInt8) : Prop := ∃ A n cap, v = .slice A n cap ∧ (∀ a, A = some a → a.block = g) ∧ RdB wr (.slice A n cap) r ∧ n = r.length
set_option maxHeartbeats 2000000 in
theorem spec_pack (s : ByteArray) (hs : s.size ≤ 4611686018427387904) (w : World) : Calls Try.prog 39 #[.string s] w (NewN w (packs s.data.toList)) := by
  obtain ⟨i0, hi, hz0, hz1, hz2⟩ := info_parts infoU32
  have HN : ∀ W, Hid (Calls Try.prog 41 #[.string s] W fun e w' => e = .returned (.bool (nameL s.data.toList)) ∧ W = w') := fun W => Lib.hid (by rw [← nameOk_list]; exact spec_nameok s hs W)
  cases hn : nameL s.data.toList with
  | false =>
    rw [hn] at HN
    rw [packs_no hn]
    clear hn
    go_enter Try.func39, Try.ntmps39
    go_wp2_with fail
    refine (HN _).out.mono ?_
    rintro e w' ⟨rfl, rfl⟩
    go_wp2_with fail
    go_ret
    exact ⟨_, rfl, own_empty _ _, (Below.refl _ _).alloc (Nat.le_refl _) _⟩
  | true =>
    rw [hn] at HN
    rw [packs_yes hn]
    obtain ⟨l, hl⟩ : ∃ l, s.data.toList = l := ⟨_, rfl⟩
    have h24 : l.length ≤ 24 := by rw [← hl]; exact (of_decide_eq_true hn).2.1
    have HS0 : Hid (PackAt l [] s.data.toList) := Lib.hid (by rw [hl]; exact PackAt.start l)
    rw [hl]
    clear hn hl
    go_enter Try.func39, Try.ntmps39
    go_wp2_with fail
    refine (HN _).out.mono ?_
    rintro e w' ⟨rfl, rfl⟩
    go_wp2_with fail
    go_loopw [0, 3] (fun vs vo wr => ∃ (t : ByteArray) (pre : List Nat), vs = .string t ∧ Hid (PackAt l pre t.data.toList) ∧ wr.ownsRow w.heap.size 24 1 vo pre.length (pre.map u32v) ∧ Below w.heap.size w wr) (fun vs _ _ => match vs with | .string t => t.size | _ => 0)
    case atStart => exact ⟨s, [], rfl, HS0, own_empty _ _, (Below.refl _ _).alloc (Nat.le_refl _) _⟩
    case round =>
      obtain ⟨t, pre, rfl, HA, hown, hB⟩ := hrel
      have hlen : pre.length + t.size ≤ 24 := Nat.le_trans HA.out.len h24
      by_cases hp : t.size = 0
      · have he := str_empty hp
        have e1 : t.toList.isEmpty = true := by rw [ByteArray.toList_eq, he]; rfl
        have HQ := Lib.hid (HA.out.done he)
        have HO := Lib.hid (show wr.ownsRow w.heap.size 24 1 _ pre.length (pre.map u32v) ∧ Below w.heap.size w wr from ⟨hown, hB⟩)
        clear he hp hown hB
        go_wp2_with fail
        go_ret
        rw [HQ.out]
        exact ⟨_, rfl, HO.out.1, HO.out.2⟩
      · have he := str_some hp
        have e1 : t.toList.isEmpty = false := by rw [ByteArray.toList_eq]; simpa using fun e => he (by rw [e])
        have HM := HA.out.more he
        have hq := fillN_len t.data.toList 28
        have hq1 := fillN_pos he
        have hqs : t.data.toList.length = t.size := rfl
        rw [hqs] at hq
        have HF := spec_l03one t (by omega) wr
        obtain ⟨p, q, hpq⟩ : ∃ p q, fillN 28 t.data.toList = (p, q) := ⟨_, _, rfl⟩
        rw [hpq] at HM hq hq1 HF
        have HF := Lib.hid HF
        rw [← rest_list] at HM
        have hrs := rest_size t q
        obtain ⟨t2, ht2⟩ : ∃ t2, t.extract q t.size = t2 := ⟨_, rfl⟩
        have HT2 := Lib.hid ht2
        rw [ht2] at HM hrs
        have HM := Lib.hid HM
        have i1 : (q : Int) ≤ (t.size : Int) := by simp at hq; omega
        clear he hpq ht2
        go_wp2_with fail
        refine HF.out.mono ?_
        rintro e w' ⟨rfl, rfl⟩
        go_wp2_with (at_builtin; refine wpList_append_own _ rfl _ _ 31 rfl w.heap.size 24 i0 (.int .u32 0) 1 4 Try.underlying31 hi hz0 hz1 hz2 rfl (by decide) _ _ _ rfl (hown.alloc _) ⟨wr.heap.size, 0, none⟩ 1 1 [.int .u32 (p : Int)] rfl rfl (cell_one_new _ _ _) (by simp [Value.oneCell']) (by unfold maxLen; omega) (by omega) (by have := hB.size; simp; omega) ?_; intro v' w1 hown' hgrow _)
        go_roundw
        case rel => exact ⟨t2, pre ++ [p], by rw [← HT2.out], HM, by simpa [u32v] using hown', (hB.alloc (by have := hB.size; omega) _).grown hgrow (by have := hB.size; simp; omega) (own_lt hown)⟩
        case measure => show (t.extract q t.size).size < t.size; rw [HT2.out, hrs]; omega
end Go.Proofs.Ytllhcdkbgknjdaa
