/-
  As many first letters as fit are packed into one field, by the program and by its model.
-/
import Derived.Test.YtllhcdkbgknjdaaPackMath
import Derived.Test.YtllhcdkbgknjdaaNameOk
import Derived.Test.YtllhcdkbgknjdaaBitsSpec
import Derived.Test.YtllhcdkbgknjdaaU32
import Derived.Laws.IdiomStrings
import Derived.Laws.AppendOwn
namespace Go.Proofs.Ytllhcdkbgknjdaa
open Go.RowKit Go

/-- A list of bytes that can be read. -/
def RdB (w : World) (v : Value) (l : List UInt8) : Prop :=
  ∃ (A : Option Addr) (cap : Nat), v = .slice A l.length cap ∧ l.length ≤ cap ∧ l.length ≤ 4611686018427387904 ∧ ∀ i (h : i < l.length), ∃ a, A = some a ∧ a.block < w.heap.size ∧ w.cell? (a.add i) = some (.int .u8 (l[i].toNat : Int))
theorem RdB.below {w w' : World} {v : Value} {l : List UInt8} (h : RdB w v l) (hb : Below w.heap.size w w') : RdB w' v l := by
  obtain ⟨A, cap, rfl, hl, hc, h⟩ := h
  refine ⟨A, cap, rfl, hl, hc, fun i hi => ?_⟩
  obtain ⟨a, rfl, e2, e3⟩ := h i hi
  exact ⟨a, rfl, Nat.lt_of_lt_of_le e2 hb.size, (hb.cell (by rw [addr_addb]; exact e2)).trans e3⟩
theorem RdB.grown {w w' : World} {v : Value} {l : List UInt8} {row : Option Nat} (h : RdB w v l) (hg : w.grownBy w' row) (hr : ∀ A n c k, v = .slice (some A) n c → row = some k → A.block ≠ k) : RdB w' v l := by
  obtain ⟨A, cap, rfl, hl, hc, h⟩ := h
  refine ⟨A, cap, rfl, hl, hc, fun i hi => ?_⟩
  obtain ⟨a, rfl, e2, e3⟩ := h i hi
  refine ⟨a, rfl, Nat.lt_of_lt_of_le e2 hg.size, (World.cell?_of_block (hg.block _ (by rw [addr_addb]; exact e2) (fun e => ?_))).trans e3⟩
  rw [addr_addb] at e
  exact hr a _ _ _ rfl e.symm rfl
theorem addr_add2 (a : Addr) (m n : Nat) : (a.add m).add n = a.add (m + n) := by
  unfold Addr.add
  by_cases h1 : m = 0
  · subst h1; simp
  · by_cases h2 : n = 0
    · subst h2; simp
    · rw [if_neg h1, if_neg h2, if_neg (by omega)]; simp [Nat.add_assoc]
theorem RdB.drop {w : World} {A : Option Addr} {n cap : Nat} {l : List UInt8} (h : RdB w (.slice A n cap) l) (k : Nat) (hk : k ≤ l.length) : RdB w (.slice (if cap = k then A else A.map (·.add k)) (l.length - k) (cap - k)) (l.drop k) := by
  obtain ⟨A', cap', e, hl, hc, h⟩ := h
  injection e with e1 e2 e3
  subst e1 e2 e3
  refine ⟨_, _, by rw [List.length_drop], by rw [List.length_drop]; omega, by rw [List.length_drop]; omega, fun i hi => ?_⟩
  rw [List.length_drop] at hi
  obtain ⟨a, rfl, e2, e3⟩ := h (k + i) (by omega)
  rw [if_neg (by omega)]
  refine ⟨a.add k, rfl, by rw [addr_addb]; exact e2, ?_⟩
  rw [addr_add2, e3, List.getElem_drop]
def drops (s : ByteArray) (n : Nat) : List UInt8 := s.data.toList.drop n
theorem drops_cons (s : ByteArray) (n : Nat) (h : n < s.size) : drops s n = s[n] :: drops s (n + 1) := List.drop_eq_getElem_cons (l := s.data.toList) h
theorem drops_end (s : ByteArray) (n : Nat) (h : s.size ≤ n) : drops s n = [] := List.drop_eq_nil_of_le (show s.data.toList.length ≤ n from h)

/-- Where packing stands: n letters lie in F, 'free' bits are left. -/
structure Fill (l : List UInt8) (F free n : Nat) : Prop where
  le : free ≤ 28
  nle : n ≤ l.length
  eq : fillN 28 l = (F + (fillN free (l.drop n)).1, n + (fillN free (l.drop n)).2)
  mod : F % 2 ^ free = 0
theorem Fill.start (l : List UInt8) : Fill l 0 28 0 := ⟨Nat.le_refl _, Nat.zero_le _, by simp, rfl⟩
theorem Fill.lt {l : List UInt8} {F free n : Nat} (h : Fill l F free n) : F < 2 ^ 28 := by
  have h1 := fillN_lt l 28
  rw [h.eq] at h1
  exact Nat.lt_of_le_of_lt (Nat.le_add_right _ _) h1
theorem Fill.done {l : List UInt8} {F free n : Nat} (h : Fill l F free n) (hn : n = l.length) : fillN 28 l = (F, n) := by
  rw [h.eq, List.drop_eq_nil_of_le (by omega), fillN_nil]
  rfl
theorem Fill.full {l : List UInt8} {F free n : Nat} (h : Fill l F free n) (hn : n < l.length) (hw : free < wB l[n]) : fillN 28 l = (F, n) := by
  rw [h.eq, List.drop_eq_getElem_cons hn, fillN_stop hw]
  rfl
theorem Fill.more {l : List UInt8} {F free n : Nat} (h : Fill l F free n) (hn : n < l.length) (hw : wB l[n] ≤ free) : Fill l (F + bB l[n] * 2 ^ (free - wB l[n])) (free - wB l[n]) (n + 1) := by
  refine ⟨by have := h.le; omega, hn, ?_, ?_⟩
  · rw [h.eq, List.drop_eq_getElem_cons hn, fillN_go hw]
    exact Prod.ext (Nat.add_assoc _ _ _).symm (by show n + (_ + 1) = n + 1 + _; omega)
  · have hd : 2 ^ (free - wB l[n]) ∣ F := Nat.dvd_trans (Nat.pow_dvd_pow 2 (by omega)) (Nat.dvd_of_mod_eq_zero h.mod)
    exact Nat.mod_eq_zero_of_dvd (Nat.dvd_add hd (Nat.dvd_mul_left _ _))
theorem fit_lt {b w free : Nat} (hb : b < 2 ^ w) (hw : w ≤ free) : b * 2 ^ (free - w) < 2 ^ free := by
  have e : (2 : Nat) ^ free = 2 ^ w * 2 ^ (free - w) := by rw [← Nat.pow_add, show w + (free - w) = free by omega]
  rw [e]
  exact Nat.mul_lt_mul_of_pos_right hb (Nat.two_pow_pos _)
theorem shl_cast (b e : Nat) : (b : Int) * 2 ^ e = ((b * 2 ^ e : Nat) : Int) := by push_cast; rfl
theorem or_fit {F b w free : Nat} (hF : F < 2 ^ 28) (hm : F % 2 ^ free = 0) (hb : b < 2 ^ w) (hw : w ≤ free) (h28 : free ≤ 28) :
    bits .or .u32 (F : Int) ((b : Int) * 2 ^ (free - w) % 4294967296) = ((F + b * 2 ^ (free - w) : Nat) : Int) := by
  have h1 := fit_lt hb hw
  have h2 : 2 ^ free ≤ 2 ^ 28 := Nat.pow_le_pow_right (by decide) h28
  have e1 : (b : Int) * 2 ^ (free - w) % 4294967296 = ((b * 2 ^ (free - w) : Nat) : Int) := by
    rw [shl_cast]
    omega
  obtain ⟨q, hq⟩ := Nat.dvd_of_mod_eq_zero hm
  rw [e1, bitsor_u32 _ _ (by omega) (by omega)]
  congr 1
  rw [hq, ← Nat.two_pow_add_eq_or_of_lt h1]
theorem add_fit {l : List UInt8} {F free n : Nat} (h : Fill l F free n) (hn : n < l.length) (hw : wB l[n] ≤ free) : wrap64 ((F : Int) + wrap64 ((bB l[n] : Int) * 2 ^ (free - wB l[n]))) = ((F + bB l[n] * 2 ^ (free - wB l[n]) : Nat) : Int) := by
  have h1 := fit_lt (bB_lt l[n]) hw
  have h2 : 2 ^ free ≤ 2 ^ 28 := Nat.pow_le_pow_right (by decide) h.le
  have h3 := h.lt
  rw [shl_cast]
  unfold wrap64
  omega

theorem grown_nil_le (s : ByteArray) : s.data.toList.length = s.size := rfl
/-- The bytes of a text, laid anew. -/
theorem rdb_bytes (w : World) (e : TypeId) (s : ByteArray) (hs : s.size ≤ 4611686018427387904) (fr : Nat × Nat) : RdB (w.drew.alloc (.cells (bytesRow s (grownCap w s.size 0 e)) e fr)) (.slice (some ⟨w.heap.size, 0, none⟩) s.size (grownCap w s.size 0 e)) s.data.toList := by
  refine ⟨_, _, rfl, grownCap_ge _ _ _ _, hs, fun i hi => ⟨_, rfl, by simp, ?_⟩⟩
  rw [addr_lit, Nat.zero_add]
  have h1 := World.cell?_alloc_mark w.drew (bytesRow s (grownCap w s.size 0 e)) e fr i
  have h2 : w.drew.heap.size = w.heap.size := rfl
  rw [h2] at h1
  rw [h1, bytesRow_at s _ i hi]
  rfl

set_option maxHeartbeats 1000000 in
theorem spec_l03one (s : ByteArray) (hs : s.size ≤ 4611686018427387904) (w : World) :
    Calls Try.prog 42 #[.string s] w fun e w' => e = .returned (.tuple #[.int .u32 ((fillN 28 s.data.toList).1 : Int), .int .i64 ((fillN 28 s.data.toList).2 : Int)]) ∧ w = w' := by
  obtain ⟨p, q, hpq⟩ : ∃ p q, fillN 28 s.data.toList = (p, q) := ⟨_, _, rfl⟩
  obtain ⟨l, hl⟩ : ∃ l, s.data.toList = l := ⟨_, rfl⟩
  have hln : l.length = s.size := by rw [← hl]; rfl
  have hat : ∀ n (h : n < l.length), l[n] = s[n]'(by omega) := fun n h => by subst hl; rfl
  rw [hl] at hpq
  rw [hl, hpq]
  have HD : Hid (∀ F free n, Fill l F free n → n = l.length → p = F ∧ q = n) := Lib.hid fun F free n h e => by
    rw [h.done e] at hpq; injection hpq with e1 e2; exact ⟨e1.symm, e2.symm⟩
  have HF : Hid (∀ F free n (h : Fill l F free n) (hn : n < l.length), free < wB l[n] → p = F ∧ q = n) := Lib.hid fun F free n h hn e => by
    rw [h.full hn e] at hpq; injection hpq with e1 e2; exact ⟨e1.symm, e2.symm⟩
  have HAT := Lib.hid hat
  clear hpq hl hat
  go_enter Try.func42, Try.ntmps42
  go_wp2
  go_loop [4, 5, 6] (fun vf vl vn => ∃ F free n : Nat, vf = .int .i64 F ∧ vl = .int .i64 free ∧ vn = .int .i64 n ∧ Hid (Fill l F free n)) (fun _ _ vn => l.length - (intOf vn).toNat)
  case atStart => exact ⟨0, 28, 0, rfl, rfl, rfl, Lib.hid (Fill.start l)⟩
  case round =>
    obtain ⟨F, free, n, rfl, rfl, rfl, HR⟩ := hrel
    have hn := HR.out.nle
    have h28 := HR.out.le
    have hlt := HR.out.lt
    by_cases hp : n < l.length
    · have hp' : n < s.size := by omega
      have hck := u8_le s[n]
      have hw := wB_le l[n]
      have HL : Hid (∀ W, Calls Try.prog 43 #[.int .u8 (s[n].toNat : Int)] W fun e w' => e = .returned (.int .i64 (letOf l[n])) ∧ W = w') := Lib.hid fun W => by rw [HAT.out n hp]; exact spec_letterof s[n] W
      have HW : Hid (∀ W, Calls Try.prog 44 #[.int .i64 (letOf l[n])] W fun e w' => e = .returned (.int .i64 (wB l[n] : Int)) ∧ W = w') := Lib.hid fun W => by rw [wB_int]; exact spec_widthof _ W
      have HB : Hid (∀ W, Calls Try.prog 45 #[.int .i64 (letOf l[n])] W fun e w' => e = .returned (.int .u32 (bB l[n] : Int)) ∧ W = w') := Lib.hid fun W => by rw [bB_int]; exact spec_bitsof _ W
      have hbl := bB_le l[n]
      have hFull := HF.out F free n HR.out hp
      have hMore := HR.out.more hp
      have hAdd := add_fit HR.out hp
      have HLr := letOf_range l[n]
      obtain ⟨z, hz⟩ : ∃ z, letOf l[n] = z := ⟨_, rfl⟩
      obtain ⟨d, hd⟩ : ∃ d, wB l[n] = d := ⟨_, rfl⟩
      obtain ⟨b, hb⟩ : ∃ b, bB l[n] = b := ⟨_, rfl⟩
      rw [hz] at HL HW HB HLr
      rw [hd] at HW hFull hMore hAdd hw
      rw [hb] at HB hMore hAdd hbl
      have HFULL := Lib.hid hFull
      have HMORE := Lib.hid hMore
      have HADD := Lib.hid hAdd
      clear hz hd hb hFull hMore hAdd
      by_cases hfit : d ≤ free
      · have hA := HADD.out hfit
        obtain ⟨F2, hF2⟩ : ∃ F2, F + b * 2 ^ (free - d) = F2 := ⟨_, rfl⟩
        have HM := HMORE.out hfit
        rw [hF2] at hA HM
        have HM := Lib.hid HM
        have hgt : decide ((free : Int) < (d : Int)) = false := by simp; omega
        have hnn : (0 : Int) ≤ (free : Int) - (d : Int) := by omega
        clear hF2
        go_wp2_with fail
        refine (HL.out _).mono ?_
        rintro e w' ⟨rfl, rfl⟩
        go_wp2_with fail
        refine (HW.out _).mono ?_
        rintro e w' ⟨rfl, rfl⟩
        go_wp2_with fail
        refine (HB.out _).mono ?_
        rintro e w' ⟨rfl, rfl⟩
        go_wp2_with fail
        go_round
        case rel => exact ⟨F2, free - d, n + 1, by go_num, by go_num, by go_num, HM⟩
        case measure => simp [intOf]; omega
      · have hgt : free < d := by omega
        have HQ := Lib.hid (HFULL.out (by omega))
        clear hfit
        go_wp2_with fail
        refine (HL.out _).mono ?_
        rintro e w' ⟨rfl, rfl⟩
        go_wp2_with fail
        refine (HW.out _).mono ?_
        rintro e w' ⟨rfl, rfl⟩
        go_wp2_with fail
        obtain ⟨rfl, rfl⟩ := HQ.out
        go_ret2
        exact ⟨rfl, rfl⟩
    · have HQ := Lib.hid (HD.out F free n HR.out (by omega))
      go_wp2_with fail
      obtain ⟨rfl, rfl⟩ := HQ.out
      go_ret2
      exact ⟨rfl, rfl⟩
end Go.Proofs.Ytllhcdkbgknjdaa
