/-
  UnpackOne, of the program and of its model, tells the letters in a field.
-/
import Derived.Test.YtaagaimafhadeaaDoorPack
import Derived.Test.YtaagaimafhadeaaDoorDecode
import Derived.Laws.BytesArg
namespace Go.Proofs.YtaagaimafhadeaaDoor
open Go.RowKit Go

def u8v (c : UInt8) : Value := .int .u8 (c.toNat : Int)
theorem infoU8 : (Tryd.prog.info? 5).map (fun i => (i.zero, i.size, i.bytes)) = some (some (.int .u8 0), 1, 1) := by kernel_rfl
/-- 'string(b)' of bytes of the call's own. -/
theorem own_string {P : Program} {w : World} {base : Nat} {src dst e : TypeId} {v : Value} {l : List UInt8} (hs : P.underlying src = some (.slice e)) (he : P.underlying e = some (.int .u8)) (hd : P.underlying dst = some .string)
    (h : w.ownsRow base e 1 v l.length (l.map u8v)) : (convert src dst v).run P w = .ok (.string ⟨l.toArray⟩) w := by
  rcases h.2 with ⟨rfl, h0⟩ | ⟨g, cap, cur, rfl, hb, hg, hn, hm, hsz, ht⟩
  · have hl : l = [] := List.eq_nil_of_length_eq_zero h0
    subst hl
    exact run_convert_bytes_nil w src e hs he 0 0 dst hd
  · refine run_convert_bytes_back w src dst e _ _ l hs he hd fun j hj => ?_
    rw [addr_lit, Nat.zero_add, cell_of_row w g j cur e (0, 0) hg]
    have h1 := congrArg (·[j]?) ht
    simpa [List.getElem?_take, hj, u8v] using h1
theorem byteAt_int {k : Nat} (h : k < 48) : letAt (k : Int) = ((byteAt (k : Int)).toNat : Int) := by
  obtain ⟨_, h2, h3⟩ := back_all k h
  unfold byteAt
  rw [UInt8.toNat_ofNat_of_lt' (by show _ < 256; omega)]
  omega
/-- Where unpacking stands: 'pre' is read, n bits are left. -/
structure UnpAt (f : Nat) (pre : List UInt8) (n : Nat) : Prop where
  eq : unpN 28 f 28 = pre ++ unpN (28 - pre.length) f n
  len : pre.length + n ≤ 28
theorem UnpAt.start (f : Nat) : UnpAt f [] 28 := ⟨rfl, by decide⟩
theorem UnpAt.done {f : Nat} {pre : List UInt8} {n : Nat} (h : UnpAt f pre n) (hd : (decode f (n : Int)).1 ≤ 0) : unpN 28 f 28 = pre := by
  rw [h.eq, unpN_stop hd, List.append_nil]
theorem UnpAt.zero {f : Nat} {pre : List UInt8} {n : Nat} (h : UnpAt f pre n) (hd : f % 2 ^ n = 0) : unpN 28 f 28 = pre := h.done (decode_zero _ _ hd)
theorem UnpAt.more {f : Nat} {pre : List UInt8} {n k d : Nat} (h : UnpAt f pre n) (hd : decode f (n : Int) = ((k : Int), (d : Int))) (hk : 0 < k) (hd1 : 1 ≤ d) (hdn : d ≤ n) : UnpAt f (pre ++ [byteAt (k : Int)]) (n - d) := by
  have hl := h.len
  have hne : ¬ (decode f (n : Int)).1 ≤ 0 := by rw [hd]; show ¬ (k : Int) ≤ 0; omega
  obtain ⟨m, hm⟩ : ∃ m, 28 - pre.length = m + 1 := ⟨28 - pre.length - 1, by omega⟩
  refine ⟨?_, by rw [List.length_append, List.length_singleton]; omega⟩
  rw [h.eq, hm, unpN_go hne, hd, List.append_assoc, List.length_append, List.length_singleton, show 28 - (pre.length + 1) = m by omega]
  rfl

set_option maxHeartbeats 2000000 in
theorem impl_unpackone (f : Nat) (hf : f < 4294967296) (w : World) (hcs : Codes w) :
    Calls Tryd.prog 22 #[.int .u32 f] w fun e w' => e = .returned (.string ⟨(unpOne f).toArray⟩) ∧ Below w.heap.size w w' := by
  obtain ⟨i0, hi, hz0, hz1, hz2⟩ := info_parts infoU8
  by_cases hbig : 268435455 < f
  · have e : unpOne f = [] := by unfold unpOne; rw [if_neg (by omega)]
    rw [e]
    clear e
    go_enter Tryd.func22, Tryd.ntmps22
    go_wp2_with fail
    go_ret
    exact ⟨rfl, Below.refl _ _⟩
  · have hbig' : f ≤ 268435455 := by omega
    have e : unpOne f = unpN 28 f 28 := by unfold unpOne; rw [if_pos (by omega)]
    obtain ⟨u, hu⟩ : ∃ u, unpN 28 f 28 = u := ⟨_, rfl⟩
    have HD : Hid (∀ pre n, UnpAt f pre n → (decode f ((n : Nat) : Int)).1 ≤ 0 → u = pre) := Lib.hid fun pre n h hd => by rw [← hu]; exact h.done hd
    have HCS := Lib.hid hcs
    rw [e, hu]
    clear e hu hcs hbig
    go_enter Tryd.func22, Tryd.ntmps22
    go_wp2_with fail
    go_loopw [3, 4] (fun vo vl wr => ∃ (pre : List UInt8) (n : Nat), vl = .int .i64 n ∧ Hid (UnpAt f pre n) ∧ wr.ownsRow w.heap.size 5 1 vo pre.length (pre.map u8v) ∧ Below w.heap.size w wr) (fun _ vl _ => (intOf vl).toNat)
    case atStart => exact ⟨[], 28, rfl, Lib.hid (UnpAt.start f), World.ownsRow_nil _ _ _ _, Below.refl _ _⟩
    case round =>
      obtain ⟨pre, n, rfl, HA, hown, hB⟩ := hrel
      have hlen := HA.out.len
      have HDC := Lib.hid (impl_decode f (n : Int) wr (HCS.out.below hB))
      by_cases hz : (decode f (n : Int)).1 ≤ 0
      · have HQ := Lib.hid (HD.out pre n HA.out hz)
        obtain ⟨p, q, hpq⟩ : ∃ p q, decode f (n : Int) = (p, q) := ⟨_, _, rfl⟩
        rw [hpq] at HDC hz
        have hz' : p ≤ 0 := hz
        have hstr := own_string (P := Tryd.prog) (src := 22) (dst := 9) Tryd.underlying22 Tryd.underlying5 Tryd.underlying9 hown
        have HB := Lib.hid hB
        clear hpq hz hown hB
        go_wp2_with fail
        refine HDC.out.mono ?_
        rintro e w' ⟨rfl, rfl⟩
        go_wp2_with fail
        go_ret
        exact ⟨by rw [HQ.out]; rfl, HB.out⟩
      · obtain ⟨k, d, hk, hkd, hwd, hd4, hd7, hdn⟩ := decode_some (x := f) (n := n) (by omega)
        have hk0 : 0 < k := by
          rw [hkd] at hz
          have : ¬ ((k : Int) ≤ 0) := hz
          omega
        have HM := Lib.hid (HA.out.more hkd hk0 (by omega) hdn)
        rw [hkd] at HDC
        have HL : Hid (∀ W, Calls Tryd.prog 43 #[.int .i64 (k : Int)] W fun e w' => e = .returned (.int .u8 ((byteAt (k : Int)).toNat : Int)) ∧ W = w') := Lib.hid fun W => by rw [← byteAt_int hk]; exact impl_letterat _ W
        obtain ⟨c, hc⟩ : ∃ c, byteAt (k : Int) = c := ⟨_, rfl⟩
        rw [hc] at HM HL
        clear hz hkd hwd hc
        go_wp2_with fail
        refine HDC.out.mono ?_
        rintro e w' ⟨rfl, rfl⟩
        go_wp2_with fail
        refine (HL.out _).mono ?_
        rintro e w' ⟨rfl, rfl⟩
        go_wp2_with (at_builtin; refine wpList_append_own _ rfl _ _ 22 rfl w.heap.size 5 i0 (.int .u8 0) 1 1 Tryd.underlying22 hi hz0 hz1 hz2 rfl (by decide) _ _ _ rfl (hown.alloc _) ⟨wr.heap.size, 0, none⟩ 1 1 [.int .u8 (c.toNat : Int)] rfl rfl (cell_one_new _ _ _) (by simp [Value.oneCell']) (by unfold maxLen; omega) (by omega) (by have := hB.size; simp; omega) ?_; intro v' w1 hown' hgrow _)
        go_roundw
        case rel => exact ⟨pre ++ [c], n - d, by go_num, HM, by simpa [u8v] using hown', (hB.alloc (by have := hB.size; omega) _).grown hgrow (by have := hB.size; simp; omega) (own_lt hown)⟩
        case measure => simp [intOf]; omega

set_option maxRecDepth 100000 in
set_option maxHeartbeats 2000000 in
theorem spec_unpackone (f : Nat) (hf : f < 4294967296) (w : World) :
    Calls Tryd.prog 28 #[.int .u32 f] w fun e w' => e = .returned (.string ⟨(unpOne f).toArray⟩) ∧ Below w.heap.size w w' := by
  obtain ⟨i0, hi, hz0, hz1, hz2⟩ := info_parts infoU8
  obtain ⟨z, hzf⟩ : ∃ z : Int, (f : Int) = z := ⟨_, rfl⟩
  rw [hzf]
  have hz0' : 0 ≤ z := by omega
  have hzu : z < 4294967296 := by omega
  by_cases hbig : 268435456 ≤ z
  · have e : unpOne f = [] := by unfold unpOne; rw [if_neg (by omega)]
    rw [e]
    clear e hzf hf
    go_enter Tryd.func28, Tryd.ntmps28
    go_wp2_with fail
    go_ret
    exact ⟨rfl, Below.refl _ _⟩
  · have hbig' : z < 268435456 := by omega
    have e : unpOne f = unpN 28 f 28 := by unfold unpOne; rw [if_pos (by omega)]
    obtain ⟨u, hu⟩ : ∃ u, unpN 28 f 28 = u := ⟨_, rfl⟩
    have HD : Hid (∀ pre n, UnpAt f pre n → (decode f ((n : Nat) : Int)).1 ≤ 0 → u = pre) := Lib.hid fun pre n h hd => by rw [← hu]; exact h.done hd
    have HZ : Hid (∀ pre n, UnpAt f pre n → f % 2 ^ n = 0 → u = pre) := Lib.hid fun pre n h hd => by rw [← hu]; exact h.zero hd
    rw [e, hu]
    have HZF := Lib.hid hzf
    have HFU := Lib.hid hf
    clear e hu hbig hzf hf
    go_enter Tryd.func28, Tryd.ntmps28
    go_wp2_with fail
    go_loopw [3, 4] (fun vo vl wr => ∃ (pre : List UInt8) (n : Nat), vl = .int .i64 n ∧ Hid (UnpAt f pre n) ∧ wr.ownsRow w.heap.size 5 1 vo pre.length (pre.map u8v) ∧ Below w.heap.size w wr) (fun _ vl _ => (intOf vl).toNat)
    case atStart => exact ⟨[], 28, rfl, Lib.hid (UnpAt.start f), own_empty _ _, (Below.refl _ _).alloc (Nat.le_refl _) _⟩
    case round =>
      obtain ⟨pre, n, rfl, HA, hown, hB⟩ := hrel
      have hlen := HA.out.len
      have hstr := own_string (P := Tryd.prog) (src := 22) (dst := 9) Tryd.underlying22 Tryd.underlying5 Tryd.underlying9 hown
      have hmask : bits .and .i64 z (wrap64 (wrap64 ((2 : Int) ^ n) - 1)) = ((f % 2 ^ n : Nat) : Int) := by
        rw [← HZF.out, wrap_mask n (by omega), mask_i64 f n (by have := HFU.out; omega) (by omega)]
      by_cases h0 : n = 0
      · subst h0
        have HQ := Lib.hid (HZ.out pre 0 HA.out (Nat.mod_one f))
        have HB := Lib.hid hB
        clear hmask hown hB
        go_wp2_with fail
        go_ret
        exact ⟨by rw [HQ.out]; rfl, HB.out⟩
      · have h0' : 0 < n := by omega
        by_cases hzz : f % 2 ^ n = 0
        · have hm0 : (bits .and .i64 z (wrap64 (wrap64 ((2 : Int) ^ n) - 1)) != 0) = false := by rw [hmask, hzz]; rfl
          have HQ := Lib.hid (HZ.out pre n HA.out hzz)
          have HB := Lib.hid hB
          clear hmask hown hB hzz h0
          go_wp2_with fail
          go_ret
          exact ⟨by rw [HQ.out]; rfl, HB.out⟩
        · have hm0 : (bits .and .i64 z (wrap64 (wrap64 ((2 : Int) ^ n) - 1)) != 0) = true := by
            rw [hmask]
            exact u32_bne (b := 0) hzz
          have HDC := spec_decode f HFU.out (n : Int) wr
          rw [HZF.out] at HDC
          have HDC := Lib.hid HDC
          clear hmask h0 hzz
          by_cases hz : (decode f (n : Int)).1 ≤ 0
          · have HQ := Lib.hid (HD.out pre n HA.out hz)
            obtain ⟨p, q, hpq⟩ : ∃ p q, decode f (n : Int) = (p, q) := ⟨_, _, rfl⟩
            rw [hpq] at HDC hz
            have hz' : p < 1 := by have : p ≤ 0 := hz; omega
            have HB := Lib.hid hB
            clear hpq hz hown hB
            go_wp2_with fail
            refine HDC.out.mono ?_
            rintro e w' ⟨rfl, rfl⟩
            go_wp2_with fail
            go_ret
            exact ⟨by rw [HQ.out]; rfl, HB.out⟩
          · obtain ⟨k, d, hk, hkd, hwd, hd4, hd7, hdn⟩ := decode_some (x := f) (n := n) (by omega)
            have hk0 : 0 < k := by
              rw [hkd] at hz
              have : ¬ ((k : Int) ≤ 0) := hz
              omega
            have HM := Lib.hid (HA.out.more hkd hk0 (by omega) hdn)
            rw [hkd] at HDC
            have HL : Hid (∀ W, Calls Tryd.prog 46 #[.int .i64 (k : Int)] W fun e w' => e = .returned (.int .u8 ((byteAt (k : Int)).toNat : Int)) ∧ W = w') := Lib.hid fun W => by rw [← byteAt_int hk]; exact spec_letterat _ W
            obtain ⟨c, hc⟩ : ∃ c, byteAt (k : Int) = c := ⟨_, rfl⟩
            rw [hc] at HM HL
            have hk1 : (1 : Int) ≤ (k : Int) := by omega
            clear hz hkd hwd hc hstr
            go_wp2_with fail
            refine HDC.out.mono ?_
            rintro e w' ⟨rfl, rfl⟩
            go_wp2_with fail
            refine (HL.out _).mono ?_
            rintro e w' ⟨rfl, rfl⟩
            go_wp2_with (at_builtin; refine wpList_append_own _ rfl _ _ 22 rfl w.heap.size 5 i0 (.int .u8 0) 1 1 Tryd.underlying22 hi hz0 hz1 hz2 rfl (by decide) _ _ _ rfl (hown.alloc _) ⟨wr.heap.size, 0, none⟩ 1 1 [.int .u8 (c.toNat : Int)] rfl rfl (cell_one_new _ _ _) (by simp [Value.oneCell']) (by unfold maxLen; omega) (by omega) (by have := hB.size; simp; omega) ?_; intro v' w1 hown' hgrow _)
            go_roundw
            case rel => exact ⟨pre ++ [c], n - d, by go_num, HM, by simpa [u8v] using hown', (hB.alloc (by have := hB.size; omega) _).grown hgrow (by have := hB.size; simp; omega) (own_lt hown)⟩
            case measure => simp [intOf]; omega
end Go.Proofs.YtaagaimafhadeaaDoor
