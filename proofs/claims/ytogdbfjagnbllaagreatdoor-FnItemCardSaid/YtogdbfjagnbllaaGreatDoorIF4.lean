/-
  Pack of the model answers a new list: the fields of a name.
  Pack of the program, whatever its tables hold: as many fields as the name has.
  Items and their cells, as plain functions: the cells of an item, the first item of cells, all items of cells.
  Colours: which items go over into one another, as plain functions.
  The shapes of items: what their methods answer, whatever the tables hold.
  The item of a word.
  The item of a number.
  The item of a variable.
  The item of a raw cell.
  The cells of a number and of a raw cell: how many there are, whatever the tables hold.
  The cells of a number: how many there are, whatever the tables hold.
  The cells of a variable: how many there are, whatever the tables hold.
  The cells of a word: how many there are, whatever the tables hold.
-/
import Derived.Test.YtogdbfjagnbllaaGreatDoorIF3
import Derived.OwnWalk
import Derived.Test.YtogdbfjagnbllaaGreatDoorIF2
import Derived.RegionTactic
import Derived.ChangeAlike
import Derived.Handy
import Derived.Deep.RegionHeld3
namespace Go.Proofs.YtogdbfjagnbllaaGreatDoor
open Go.RowKit Go

theorem own_base {w : World} {b b' : Nat} {e : TypeId} {size : Nat} {v : Value} {n : Nat} {xs : List Value} (h : w.ownsRow b e size v n xs) (hb : b' ≤ b) : w.ownsRow b' e size v n xs := by
  refine ⟨h.1, ?_⟩
  rcases h.2 with h2 | ⟨g, cap, cur, hv, hg, r⟩
  · exact .inl h2
  · exact .inr ⟨g, cap, cur, hv, by omega, r⟩
theorem rest_list (t : ByteArray) (q : Nat) : (t.extract q t.size).data.toList = t.data.toList.drop q := by
  have h : (t.extract q t.size).data = t.data.extract q t.size := ByteArray.data_extract
  rw [h, Array.toList_extract]
  show ((t.data.toList.drop q).take (t.size - q)) = _
  rw [List.take_of_length_le]
  rw [List.length_drop]
  exact Nat.le_refl _
theorem rest_size (t : ByteArray) (q : Nat) : (t.extract q t.size).size = t.size - q := by
  show (t.extract q t.size).data.toList.length = _
  rw [rest_list, List.length_drop]
  rfl
theorem str_empty {t : ByteArray} (h : t.size = 0) : t.data.toList = [] := List.eq_nil_of_length_eq_zero h
theorem str_some {t : ByteArray} (h : t.size ≠ 0) : t.data.toList ≠ [] := fun e => h (by show t.data.toList.length = 0; rw [e]; rfl)
/-- Where packing a name stands: 'pre' is packed, 'r' is left. -/
structure PackAt (l : List UInt8) (pre : List Nat) (r : List UInt8) : Prop where
  eq : packL l = pre ++ packL r
  len : pre.length + r.length ≤ l.length
theorem PackAt.start (l : List UInt8) : PackAt l [] l := ⟨rfl, by simp⟩
theorem PackAt.done {l : List UInt8} {pre : List Nat} {r : List UInt8} (h : PackAt l pre r) (hr : r = []) : packL l = pre := by
  rw [h.eq, hr, packL_nil, List.append_nil]
theorem PackAt.more {l : List UInt8} {pre : List Nat} {r : List UInt8} (h : PackAt l pre r) (hr : r ≠ []) : PackAt l (pre ++ [(fillN 28 r).1]) (r.drop (fillN 28 r).2) := by
  have hp := fillN_pos hr
  have hl := fillN_len r 28
  refine ⟨?_, ?_⟩
  · rw [h.eq, packL_go hr, List.append_assoc]
    rfl
  · have := h.len
    rw [List.length_append, List.length_drop]
    simp
    omega

/-- The bytes left of a name: their block, and what can be read. -/
def LeftAt (g : Nat) (wr : World) (v : Value) (r : List UInt8) : Prop := ∃ A n cap, v = .slice A n cap ∧ (∀ a, A = some a → a.block = g) ∧ RdB wr (.slice A n cap) r ∧ n = r.length
set_option maxHeartbeats 2000000 in
theorem spec_pack (s : ByteArray) (hs : s.size ≤ 4611686018427387904) (w : World) : Calls Tryz.prog 111 #[.string s] w (NewN w (packs s.data.toList)) := by
  obtain ⟨i0, hi, hz0, hz1, hz2⟩ := info_parts infoU32
  have HN : ∀ W, Hid (Calls Tryz.prog 131 #[.string s] W fun e w' => e = .returned (.bool (nameL s.data.toList)) ∧ W = w') := fun W => Lib.hid (by rw [← nameOk_list]; exact spec_nameok s hs W)
  cases hn : nameL s.data.toList with
  | false =>
    rw [hn] at HN
    rw [packs_no hn]
    clear hn
    go_enter Tryz.func111, Tryz.ntmps111
    go_wp2_with fail
    refine (HN _).out.mono ?_
    rintro e w' ⟨rfl, rfl⟩
    go_wp2_with fail
    go_ret
    exact ⟨_, rfl, own_empty _ _, (Below.refl _ _).alloc (Nat.le_refl _) _⟩
  | true =>
    rw [hn] at HN
    rw [packs_yes hn]
    obtain ⟨l, hl⟩ : ∃ l, s.data.toList = l := ⟨_, rfl⟩
    have h24 : l.length ≤ 24 := by rw [← hl]; exact (of_decide_eq_true hn).2.1
    have HS0 : Hid (PackAt l [] s.data.toList) := Lib.hid (by rw [hl]; exact PackAt.start l)
    rw [hl]
    clear hn hl
    go_enter Tryz.func111, Tryz.ntmps111
    go_wp2_with fail
    refine (HN _).out.mono ?_
    rintro e w' ⟨rfl, rfl⟩
    go_wp2_with fail
    go_loopw [0, 3] (fun vs vo wr => ∃ (t : ByteArray) (pre : List Nat), vs = .string t ∧ Hid (PackAt l pre t.data.toList) ∧ wr.ownsRow w.heap.size 36 1 vo pre.length (pre.map u32v) ∧ Below w.heap.size w wr) (fun vs _ _ => match vs with | .string t => t.size | _ => 0)
    case atStart => exact ⟨s, [], rfl, HS0, own_empty _ _, (Below.refl _ _).alloc (Nat.le_refl _) _⟩
    case round =>
      obtain ⟨t, pre, rfl, HA, hown, hB⟩ := hrel
      have hlen : pre.length + t.size ≤ 24 := Nat.le_trans HA.out.len h24
      by_cases hp : t.size = 0
      · have he := str_empty hp
        have e1 : t.toList.isEmpty = true := by rw [ByteArray.toList_eq, he]; rfl
        have HQ := Lib.hid (HA.out.done he)
        have HO := Lib.hid (show wr.ownsRow w.heap.size 36 1 _ pre.length (pre.map u32v) ∧ Below w.heap.size w wr from ⟨hown, hB⟩)
        clear he hp hown hB
        go_wp2_with fail
        go_ret
        rw [HQ.out]
        exact ⟨_, rfl, HO.out.1, HO.out.2⟩
      · have he := str_some hp
        have e1 : t.toList.isEmpty = false := by rw [ByteArray.toList_eq]; simpa using fun e => he (by rw [e])
        have HM := HA.out.more he
        have hq := fillN_len t.data.toList 28
        have hq1 := fillN_pos he
        have hqs : t.data.toList.length = t.size := rfl
        rw [hqs] at hq
        have HF := spec_l03one t (by omega) wr
        obtain ⟨p, q, hpq⟩ : ∃ p q, fillN 28 t.data.toList = (p, q) := ⟨_, _, rfl⟩
        rw [hpq] at HM hq hq1 HF
        have HF := Lib.hid HF
        rw [← rest_list] at HM
        have hrs := rest_size t q
        obtain ⟨t2, ht2⟩ : ∃ t2, t.extract q t.size = t2 := ⟨_, rfl⟩
        have HT2 := Lib.hid ht2
        rw [ht2] at HM hrs
        have HM := Lib.hid HM
        have i1 : (q : Int) ≤ (t.size : Int) := by simp at hq; omega
        clear he hpq ht2
        go_wp2_with fail
        refine HF.out.mono ?_
        rintro e w' ⟨rfl, rfl⟩
        go_wp2_with (at_builtin; refine wpList_append_own _ rfl _ _ 24 rfl w.heap.size 36 i0 (.int .u32 0) 1 4 Tryz.underlying24 hi hz0 hz1 hz2 rfl (by decide) _ _ _ rfl (hown.alloc _) ⟨wr.heap.size, 0, none⟩ 1 1 [.int .u32 (p : Int)] rfl rfl (cell_one_new _ _ _) (by simp [Value.oneCell']) (by unfold maxLen; omega) (by omega) (by have := hB.size; simp; omega) ?_; intro v' w1 hown' hgrow _)
        go_roundw
        case rel => exact ⟨t2, pre ++ [p], by rw [← HT2.out], HM, by simpa [u32v] using hown', (hB.alloc (by have := hB.size; omega) _).grown hgrow (by have := hB.size; simp; omega) (own_lt hown)⟩
        case measure => show (t.extract q t.size).size < t.size; rw [HT2.out, hrs]; omega
end Go.Proofs.YtogdbfjagnbllaaGreatDoor

namespace Go.Proofs.YtogdbfjagnbllaaGreatDoor
open Go.RowKit Go

def SomeU32 (w : World) (e : Ending) (w' : World) : Prop := ∃ b : Nat, e = .returned (.int .u32 b) ∧ b < 4294967296 ∧ w = w'
theorem impl_bitsany (k : Int) (w : World) (hc : TabsAny w) : Calls Tryz.prog 171 #[.int .i64 k] w (SomeU32 w) := by
  by_cases h : 0 ≤ k ∧ k ≤ 47
  · obtain ⟨n, rfl⟩ : ∃ n : Nat, k = n := ⟨k.toNat, by omega⟩
    have hb := Lib.hid (inB_true h.1 h.2)
    have hi := Lib.hid (isletter_any (n : Int) w)
    have hn : n < 48 := by omega
    obtain ⟨v, hv, hcell⟩ := hc.2 n hn
    clear h hc
    go_enter Tryz.func171, Tryz.ntmps171
    go_wp2_with fail
    refine hi.out.mono ?_
    rintro e w' ⟨he, rfl⟩
    rw [hb.out] at he
    subst he
    go_wp2_with fail
    go_ret
    exact ⟨v, rfl, by omega, rfl⟩
  · have hb := Lib.hid (inB_false h)
    clear h hc
    go_enter Tryz.func171, Tryz.ntmps171
    go_wp2_with fail
    refine (isletter_any _ _).mono ?_
    rintro e w' ⟨he, rfl⟩
    rw [hb.out] at he
    subst he
    go_wp2_with fail
    go_ret
    exact ⟨0, rfl, by omega, rfl⟩
theorem or_nat (x y : Int) : ∃ n : Nat, bits .or .u32 x y = (n : Int) ∧ n < 4294967296 := by
  have h : bits .or .u32 x y = IntKind.u32.wrap ((BitVec.ofInt 32 x ||| BitVec.ofInt 32 y).toNat : Int) := rfl
  rw [h, IntKind.wrap_u32]
  exact ⟨((((BitVec.ofInt 32 x ||| BitVec.ofInt 32 y).toNat : Int)) % 4294967296).toNat, by omega, by omega⟩
/-- Filling a field takes just so many letters. -/
def Filled (n : Nat) (w : World) (e : Ending) (w' : World) : Prop := ∃ x : Nat, e = .returned (.tuple #[.int .u32 x, .int .i64 (n : Int)]) ∧ x < 4294967296 ∧ w = w'

set_option maxHeartbeats 1000000 in
theorem impl_fillany (v : Value) (l : List UInt8) (w : World) (hv : RdB w v l) (hcs : TabsAny w) :
    Calls Tryz.prog 167 #[v] w (Filled (fillN 28 l).2 w) := by
  obtain ⟨A, cap, rfl, hlc, hl62, hcell⟩ := hv
  have HC := Lib.hid hcell
  obtain ⟨p, q, hpq⟩ : ∃ p q, fillN 28 l = (p, q) := ⟨_, _, rfl⟩
  rw [hpq]
  have HD : Hid (∀ F free n, Fill l F free n → n = l.length → q = n) := Lib.hid fun F free n h e => by
    rw [h.done e] at hpq; injection hpq with e1 e2; exact e2.symm
  have HF : Hid (∀ F free n (h : Fill l F free n) (hn : n < l.length), free < wB l[n] → q = n) := Lib.hid fun F free n h hn e => by
    rw [h.full hn e] at hpq; injection hpq with e1 e2; exact e2.symm
  have HCS := Lib.hid hcs
  clear hpq hcell hcs hlc
  go_enter Tryz.func167, Tryz.ntmps167
  go_wp2
  go_loop [4, 5, 12] (fun vf vl vn => ∃ x F free n : Nat, vf = .int .u32 x ∧ vl = .int .i64 free ∧ vn = .int .i64 n ∧ x < 4294967296 ∧ Hid (Fill l F free n)) (fun _ _ vn => l.length - (intOf vn).toNat)
  case atStart => exact ⟨0, 0, 28, 0, rfl, rfl, rfl, by omega, Lib.hid (Fill.start l)⟩
  case round =>
    obtain ⟨x, F, free, n, rfl, rfl, rfl, hx, HR⟩ := hrel
    have hn := HR.out.nle
    have h28 := HR.out.le
    by_cases hp : n < l.length
    · obtain ⟨a, rfl, -, hc⟩ := HC.out n hp
      have hck := u8_le l[n]
      have hw := wB_le l[n]
      have HL : Hid (∀ W, Calls Tryz.prog 170 #[.int .u8 (l[n].toNat : Int)] W fun e w' => e = .returned (.int .i64 (letOf l[n])) ∧ W = w') := Lib.hid fun W => impl_letterof l[n] W
      have HW : Hid (∀ W, Calls Tryz.prog 152 #[.int .i64 (letOf l[n])] W fun e w' => e = .returned (.int .i64 (wB l[n] : Int)) ∧ W = w') := Lib.hid fun W => by rw [wB_int]; exact impl_widthof _ W
      have HB := Lib.hid (impl_bitsany (letOf l[n]) w HCS.out)
      have hFull := HF.out F free n HR.out hp
      have hMore := HR.out.more hp
      have HLr := letOf_range l[n]
      obtain ⟨z, hz⟩ : ∃ z, letOf l[n] = z := ⟨_, rfl⟩
      obtain ⟨d, hd⟩ : ∃ d, wB l[n] = d := ⟨_, rfl⟩
      rw [hz] at HL HW HB HLr
      rw [hd] at HW hFull hMore hw
      have HFULL := Lib.hid hFull
      have HMORE := Lib.hid hMore
      clear hz hd hFull hMore
      by_cases hfit : d ≤ free
      · have HM := Lib.hid (HMORE.out hfit)
        have hnn : (0 : Int) ≤ (free : Int) - (d : Int) := by omega
        go_wp2_with fail
        refine (HL.out _).mono ?_
        rintro e w' ⟨rfl, rfl⟩
        go_wp2_with fail
        refine (HW.out _).mono ?_
        rintro e w' ⟨rfl, rfl⟩
        go_wp2_with fail
        refine HB.out.mono ?_
        rintro e w' ⟨b, rfl, hb, rfl⟩
        obtain ⟨y, hy, hyl⟩ := or_nat (x : Int) ((b : Int) * 2 ^ (free - d) % 4294967296)
        have HYL := Lib.hid hyl
        clear hyl
        go_wp2_with fail
        go_round
        case rel => exact ⟨y, _, free - d, n + 1, by first | rfl | go_num | (simpa using hy), by go_num, by go_num, HYL.out, HM⟩
        case measure => simp [intOf]; omega
      · have hgt : free < d := by omega
        have HQ := Lib.hid (HFULL.out (by omega))
        clear hfit
        go_wp2_with fail
        refine (HL.out _).mono ?_
        rintro e w' ⟨rfl, rfl⟩
        go_wp2_with fail
        refine (HW.out _).mono ?_
        rintro e w' ⟨rfl, rfl⟩
        go_wp2_with fail
        go_ret2
        rw [HQ.out]
        exact ⟨x, rfl, hx, rfl⟩
    · have HQ := Lib.hid (HD.out F free n HR.out (by omega))
      obtain rfl : n = l.length := by omega
      go_wp2_with fail
      go_ret2
      rw [HQ.out]
      exact ⟨x, rfl, hx, rfl⟩

theorem snoc_len {zs pre : List Nat} {y p : Nat} (h : zs.length = pre.length ∧ ∀ z ∈ zs, z < 4294967296) (hy : y < 4294967296) : (zs ++ [y]).length = (pre ++ [p]).length ∧ ∀ z ∈ zs ++ [y], z < 4294967296 := by
  refine ⟨?_, fun z hz => ?_⟩
  · rw [List.length_append, List.length_append, h.1]; rfl
  · rcases List.mem_append.1 hz with hz | hz
    · exact h.2 z hz
    · rw [List.mem_singleton.1 hz]; exact hy
/-- A new list of so many numbers. -/
def NewLen (w : World) (n : Nat) (e : Ending) (w' : World) : Prop := ∃ (v : Value) (zs : List Nat), e = .returned v ∧ zs.length = n ∧ (∀ z ∈ zs, z < 4294967296) ∧ w'.ownsRow w.heap.size 36 1 v zs.length (zs.map u32v) ∧ Below w.heap.size w w'
theorem NewLen.of_new {w : World} {xs : List Nat} (hx : ∀ z ∈ xs, z < 4294967296) {e : Ending} {w' : World} (h : NewN w xs e w') : NewLen w xs.length e w' := by
  obtain ⟨v, e1, e2, e3⟩ := h
  exact ⟨v, xs, e1, rfl, hx, e2, e3⟩

set_option maxHeartbeats 2000000 in
theorem impl_packany (s : ByteArray) (hs : s.size ≤ 4611686018427387904) (w : World) (hcs : TabsAny w) : Calls Tryz.prog 151 #[.string s] w (NewLen w (packs s.data.toList).length) := by
  obtain ⟨i0, hi, hz0, hz1, hz2⟩ := info_parts infoU32
  have HN := Lib.hid (impl_nameok s hs w)
  rw [nameOk_list] at HN
  cases hn : nameL s.data.toList with
  | false =>
    rw [hn] at HN
    rw [packs_no hn]
    clear hn hcs
    go_enter Tryz.func151, Tryz.ntmps151
    go_wp2_with fail
    refine HN.out.mono ?_
    rintro e w' ⟨rfl, rfl⟩
    go_wp2_with fail
    go_ret
    exact ⟨_, [], rfl, rfl, fun z hz => absurd hz List.not_mem_nil, World.ownsRow_nil _ _ _ _, Below.refl _ _⟩
  | true =>
    rw [hn] at HN
    rw [packs_yes hn]
    have hconv := run_bytes_of_string (P := Tryz.prog) w 9 22 5 s Tryz.underlying9 Tryz.underlying22 Tryz.underlying5
    have hr := rdb_bytes w 5 s hs ((bytesRow s (grownCap w s.size 0 5)).size, (bytesRow s (grownCap w s.size 0 5)).size + 1)
    have hb1 : Below w.heap.size w (w.drew.alloc (.cells (bytesRow s (grownCap w s.size 0 5)) 5 ((bytesRow s (grownCap w s.size 0 5)).size, (bytesRow s (grownCap w s.size 0 5)).size + 1))) := (below_drewN (Below.refl _ _) 1).alloc (Nat.le_refl _) _
    have hsz : (w.drew.alloc (.cells (bytesRow s (grownCap w s.size 0 5)) 5 ((bytesRow s (grownCap w s.size 0 5)).size, (bytesRow s (grownCap w s.size 0 5)).size + 1))).heap.size = w.heap.size + 1 := by simp
    obtain ⟨W1, hW1⟩ : ∃ W1, w.drew.alloc (.cells (bytesRow s (grownCap w s.size 0 5)) 5 ((bytesRow s (grownCap w s.size 0 5)).size, (bytesRow s (grownCap w s.size 0 5)).size + 1)) = W1 := ⟨_, rfl⟩
    rw [hW1] at hconv hr hb1 hsz
    obtain ⟨cap, hcap⟩ : ∃ cap, grownCap w s.size 0 5 = cap := ⟨_, rfl⟩
    rw [hcap] at hconv hr
    obtain ⟨l, hl⟩ : ∃ l, s.data.toList = l := ⟨_, rfl⟩
    have h24 : l.length ≤ 24 := by rw [← hl]; exact (of_decide_eq_true hn).2.1
    have hls : s.size = l.length := by rw [← hl]; rfl
    rw [hl] at hr ⊢
    rw [hls] at hconv
    have HL0 : Hid (LeftAt w.heap.size W1 (.slice (some ⟨w.heap.size, 0, none⟩) l.length cap) l) := Lib.hid ⟨_, _, _, rfl, fun a h => by obtain rfl := Option.some.inj h; rfl, by rw [← hls]; exact hr, rfl⟩
    have HCS := Lib.hid (hcs.below hb1)
    have HB := Lib.hid hb1
    clear hn hl hcs hr hb1 hW1 hcap
    go_enter Tryz.func151, Tryz.ntmps151
    go_wp2_with fail
    refine HN.out.mono ?_
    rintro e w' ⟨rfl, rfl⟩
    go_wp2_with fail
    go_loopw [3, 4] (fun vo vl wr => ∃ (pre : List Nat) (zs : List Nat) (r : List UInt8), Hid (PackAt l pre r) ∧ Hid (zs.length = pre.length ∧ ∀ z ∈ zs, z < 4294967296) ∧ Hid (LeftAt w.heap.size wr vl r) ∧ wr.ownsRow W1.heap.size 36 1 vo zs.length (zs.map u32v) ∧ Below W1.heap.size W1 wr) (fun _ vl _ => match vl with | .slice _ n _ => n | _ => 0)
    case atStart => exact ⟨[], [], l, Lib.hid (PackAt.start l), Lib.hid ⟨rfl, fun z hz => absurd hz List.not_mem_nil⟩, HL0, World.ownsRow_nil _ _ _ _, Below.refl _ _⟩
    case round =>
      obtain ⟨pre, zs, r, HA, HZ, HL, hown, hB⟩ := hrel
      obtain ⟨A, n, cap2, rfl, hA, hR, rfl⟩ := HL.out
      have hlen : zs.length + r.length ≤ 24 := by have := HA.out.len; have := HZ.out.1; omega
      by_cases hp : r = []
      · have HQ := Lib.hid (HA.out.done hp)
        have hp0 : r.length = 0 := by rw [hp]; rfl
        have HO := Lib.hid (show wr.ownsRow w.heap.size 36 1 _ zs.length (zs.map u32v) ∧ Below w.heap.size w wr from ⟨own_base hown (by omega), HB.out.trans (hB.mono (by omega))⟩)
        clear hp hown hB hR hA HL
        go_wp2_with fail
        go_ret
        rw [HQ.out]
        exact ⟨_, zs, rfl, HZ.out.1, HZ.out.2, HO.out.1, HO.out.2⟩
      · have HM := HA.out.more hp
        have hp1 : 0 < r.length := List.length_pos_iff.2 hp
        have hq := fillN_len r 28
        have hq1 := fillN_pos hp
        have HF := impl_fillany _ _ wr hR (HCS.out.below hB)
        have hD := hR.drop (fillN 28 r).2 hq
        obtain ⟨p, q, hpq⟩ : ∃ p q, fillN 28 r = (p, q) := ⟨_, _, rfl⟩
        rw [hpq] at HM hq hq1 HF hD
        have HF := Lib.hid HF
        have HM := Lib.hid HM
        have HD := Lib.hid hD
        have HAA := Lib.hid hA
        have i1 : (q : Int) ≤ (r.length : Int) := by simp at hq; omega
        have i2 : 1 ≤ q := hq1
        clear hp hpq hR hD hA HL hq hq1
        go_wp2_with fail
        refine HF.out.mono ?_
        rintro e w' ⟨y, rfl, hy, rfl⟩
        have HZ2 : Hid ((zs ++ [y]).length = (pre ++ [p]).length ∧ ∀ z ∈ zs ++ [y], z < 4294967296) := Lib.hid (snoc_len HZ.out hy)
        clear hy
        go_wp2_with (at_builtin; refine wpList_append_own _ rfl _ _ 24 rfl W1.heap.size 36 i0 (.int .u32 0) 1 4 Tryz.underlying24 hi hz0 hz1 hz2 rfl (by decide) _ _ _ rfl (hown.alloc _) ⟨wr.heap.size, 0, none⟩ 1 1 [.int .u32 (y : Int)] rfl rfl (cell_one_new _ _ _) (by simp [Value.oneCell']) (by unfold maxLen; omega) (by omega) (by have := hB.size; simp; omega) ?_; intro v' w1 hown' hgrow _)
        go_roundw
        case rel => exact ⟨pre ++ [p], zs ++ [y], r.drop q, HM, HZ2, Lib.hid ⟨_, _, _, rfl, fun a h => by
            split at h
            · exact HAA.out a h
            · obtain ⟨a', ha', rfl⟩ := Option.map_eq_some_iff.1 h
              rw [addr_addb]; exact HAA.out a' ha', (HD.out.below ((Below.refl _ _).alloc (Nat.le_refl _) _)).grown hgrow (fun A n c k e1 e2 => by
                have h1 := own_lt hown k e2
                injection e1 with e1 _ _
                have h3 : A.block = w.heap.size := by
                  split at e1
                  · exact HAA.out A e1
                  · obtain ⟨a', ha', rfl⟩ := Option.map_eq_some_iff.1 e1
                    rw [addr_addb]; exact HAA.out a' ha'
                omega), by rw [List.length_drop]⟩, by simpa [u32v] using hown', (hB.alloc (by have := hB.size; omega) _).grown hgrow (by have := hB.size; simp; omega) (own_lt hown)⟩
        case measure => show r.length - q < r.length; omega
end Go.Proofs.YtogdbfjagnbllaaGreatDoor

namespace Go.Proofs.YtogdbfjagnbllaaGreatDoor
open Go

structure It where
  kind : Int
  name : ByteArray
  n : Int
  hex : Bool
  raw : Nat
  deriving DecidableEq
def noText : ByteArray := ⟨#[]⟩
def rawIt (c : Nat) : It := ⟨0, ⟨#[]⟩, 0, false, c⟩
/-- The 32 bits of a number with a sign. -/
def lowN (n : Int) : Nat := (n % 4294967296).toNat
/-- The number with a sign that 32 bits are. -/
def sgn (x : Nat) : Int := if x < 2147483648 then (x : Int) else (x : Int) - 4294967296
def tagW (k : Int) : Nat := if k = 1 then 1 else if k = 2 then 3 else if k = 3 then 4 else if k = 4 then 9 else if k = 5 then 10 else if k = 6 then 11 else 0
def kindT (t : Nat) : Int := if t = 1 then 1 else if t = 3 then 2 else if t = 4 then 3 else if t = 9 then 4 else if t = 10 then 5 else if t = 11 then 6 else -1
def wordCells (tag : Nat) : List Nat → List Nat
  | [] => []
  | f :: r => (f * 16 + tag) :: r.map (· * 16)
def wideN (n : Int) : Bool := decide (n < -67108864 ∨ 67108863 < n)
def hexN (h : Bool) : Nat := if h = true then 16 else 0
def numCells (n : Int) (h : Bool) (short long : Nat) : List Nat := if wideN n = true then [hexN h + long, lowN n] else [lowN n % 134217728 * 32 + hexN h + short]
def shortOf (k : Int) : Nat := if k = 7 then 8 else 6
def longOf (k : Int) : Nat := if k = 7 then 2 else 5
def varCells : List Nat → Int → List Nat
  | [f], n => [f * 16 + 12, lowN n]
  | _, _ => []
/-- The cells of an item. -/
def cellsOf (it : It) : List Nat :=
  if it.kind = 0 then (if it.name = noText ∧ it.n = 0 ∧ it.hex = false then [it.raw] else [])
  else if it.kind = 7 ∨ it.kind = 8 then (if it.name = noText ∧ it.raw = 0 then numCells it.n it.hex (shortOf it.kind) (longOf it.kind) else [])
  else if it.kind = 9 then (if it.hex = false ∧ it.raw = 0 then varCells (packs it.name.data.toList) it.n else [])
  else if 1 ≤ it.kind ∧ it.kind ≤ 6 then (if it.n = 0 ∧ it.hex = false ∧ it.raw = 0 then wordCells (tagW it.kind) (packs it.name.data.toList) else [])
  else []
/-- An item as memory can hold it. -/
structure ItIn (it : It) : Prop where
  k1 : -9223372036854775808 ≤ it.kind
  k2 : it.kind ≤ 9223372036854775807
  n1 : -2147483648 ≤ it.n
  n2 : it.n ≤ 2147483647
  r : it.raw < 4294967296
  s : it.name.size ≤ 4611686018427387904

theorem lowN_lt (n : Int) : lowN n < 4294967296 := by unfold lowN; omega
theorem lowN_sgn {x : Nat} (h : x < 4294967296) : lowN (sgn x) = x := by unfold lowN sgn; split <;> omega
theorem sgn_low {n : Int} (h1 : -2147483648 ≤ n) (h2 : n ≤ 2147483647) : sgn (lowN n) = n := by unfold lowN sgn; split <;> omega
theorem sgn_in {x : Nat} (h : x < 4294967296) : -2147483648 ≤ sgn x ∧ sgn x ≤ 2147483647 := by unfold sgn; split <;> omega
theorem sgn_shift {x : Nat} (h : x < 4294967296) : -67108864 ≤ sgn x / 32 ∧ sgn x / 32 ≤ 67108863 := by unfold sgn; split <;> omega
theorem sgn_shift_low {x : Nat} (h : x < 4294967296) : lowN (sgn x / 32) % 134217728 = x / 32 := by unfold lowN sgn; split <;> omega
theorem hexN_le (h : Bool) : hexN h ≤ 16 := by cases h <;> decide
theorem tagW_le (k : Int) : tagW k ≤ 15 := by unfold tagW; (repeat' split) <;> omega
theorem kindT_le (t : Nat) : kindT t ≤ 6 := by unfold kindT; (repeat' split) <;> omega
theorem kindT_tag {t : Nat} (h : 0 ≤ kindT t) : tagW (kindT t) = t ∧ 1 ≤ kindT t ∧ t < 16 ∧ t ≠ 0 ∧ t ≠ 8 ∧ t ≠ 6 ∧ t ≠ 2 ∧ t ≠ 5 ∧ t ≠ 12 := by
  unfold kindT at h ⊢
  (repeat' split at h) <;> simp_all [tagW]
theorem wordCells_len (t : Nat) (l : List Nat) : (wordCells t l).length = l.length := by cases l <;> simp [wordCells]
theorem varCells_len (l : List Nat) (n : Int) : (varCells l n).length ≤ 2 := by
  match l with
  | [] => exact Nat.zero_le _
  | [f] => exact Nat.le_refl _
  | _ :: _ :: _ => exact Nat.zero_le _
theorem numCells_len (n : Int) (h : Bool) (s l : Nat) : (numCells n h s l).length ≤ 2 := by unfold numCells; split <;> simp
theorem cellsOf_len (it : It) : (cellsOf it).length ≤ 24 := by
  unfold cellsOf
  have h1 := varCells_len (packs it.name.data.toList) it.n
  have h2 := numCells_len it.n it.hex (shortOf it.kind) (longOf it.kind)
  have h3 := wordCells_len (tagW it.kind) (packs it.name.data.toList)
  have h4 := (packs_len it.name.data.toList).2
  (repeat' split) <;> simp_all <;> omega
theorem wordCells_small {t : Nat} (ht : t ≤ 15) {l : List Nat} (h : ∀ f ∈ l, f < 2 ^ 28) : ∀ c ∈ wordCells t l, c < 4294967296 := by
  cases l with
  | nil => exact fun c hc => absurd hc List.not_mem_nil
  | cons f r =>
    intro c hc
    rcases List.mem_cons.1 hc with rfl | hc
    · have := h f (by simp); omega
    · obtain ⟨x, hx, rfl⟩ := List.mem_map.1 hc
      have := h x (by simp [hx]); omega
theorem varCells_small {l : List Nat} (h : ∀ f ∈ l, f < 2 ^ 28) (n : Int) : ∀ c ∈ varCells l n, c < 4294967296 := by
  match l with
  | [] => exact fun c hc => absurd hc List.not_mem_nil
  | [f] =>
    intro c hc
    have := h f (by simp)
    have := lowN_lt n
    simp [varCells] at hc
    omega
  | _ :: _ :: _ => exact fun c hc => absurd hc List.not_mem_nil
theorem numCells_small (n : Int) (h : Bool) (k : Int) : ∀ c ∈ numCells n h (shortOf k) (longOf k), c < 4294967296 := by
  have h1 := hexN_le h
  have h2 := lowN_lt n
  have h3 : shortOf k ≤ 8 := by unfold shortOf; split <;> omega
  have h4 : longOf k ≤ 5 := by unfold longOf; split <;> omega
  intro c hc
  unfold numCells at hc
  split at hc <;> simp at hc <;> omega
theorem cellsOf_small {it : It} (hr : it.raw < 4294967296) : ∀ c ∈ cellsOf it, c < 4294967296 := by
  have h1 := varCells_small (packs_small it.name.data.toList) it.n
  have h2 := numCells_small it.n it.hex it.kind
  have h3 := wordCells_small (tagW_le it.kind) (packs_small it.name.data.toList)
  unfold cellsOf
  (repeat' split) <;> first | assumption | (intro c hc; simp at hc; omega) | (intro c hc; exact absurd hc List.not_mem_nil)

theorem cellsOf_raw (c : Nat) : cellsOf (rawIt c) = [c] := by simp [cellsOf, rawIt, noText]

end Go.Proofs.YtogdbfjagnbllaaGreatDoor

namespace Go.Proofs.YtogdbfjagnbllaaGreatDoor
open Go

def zeroIt : It := rawIt 0
def wordK (k : Int) : Bool := decide (1 ≤ k ∧ k ≤ 6)
def numK (k : Int) : Bool := decide (7 ≤ k ∧ k ≤ 8)
def akin (a b : Int) : Bool := decide (a = b) || (wordK a && wordK b) || (numK a && numK b)
def recolOk (it : It) (k : Int) : Bool := decide (cellsOf it ≠ []) && akin it.kind k
def recol (it : It) (k : Int) : It := if recolOk it k = true then { it with kind := k } else zeroIt

theorem cells_words {it : It} (h : 1 ≤ it.kind ∧ it.kind ≤ 6) : cellsOf it = if it.n = 0 ∧ it.hex = false ∧ it.raw = 0 then wordCells (tagW it.kind) (packs it.name.data.toList) else [] := by
  unfold cellsOf
  rw [if_neg (by omega), if_neg (by omega), if_neg (by omega), if_pos h]
theorem cells_nums {it : It} (h : it.kind = 7 ∨ it.kind = 8) : cellsOf it = if it.name = noText ∧ it.raw = 0 then numCells it.n it.hex (shortOf it.kind) (longOf it.kind) else [] := by
  unfold cellsOf
  rw [if_neg (by omega), if_pos h]
theorem akin_cells {it : It} {k : Int} (h : akin it.kind k = true) : (cellsOf { it with kind := k }).length = (cellsOf it).length := by
  unfold akin at h
  rw [Bool.or_eq_true, Bool.or_eq_true, Bool.and_eq_true, Bool.and_eq_true] at h
  rcases h with (h | ⟨h1, h2⟩) | ⟨h1, h2⟩
  · rw [← of_decide_eq_true h]
  · have h1 := of_decide_eq_true h1
    have h2 := of_decide_eq_true h2
    rw [cells_words (it := { it with kind := k }) h2, cells_words h1]
    simp only
    split
    · rw [wordCells_len, wordCells_len]
    · rfl
  · have h1 := of_decide_eq_true h1
    have h2 := of_decide_eq_true h2
    rw [cells_nums (it := { it with kind := k }) (show k = 7 ∨ k = 8 by omega), cells_nums (show it.kind = 7 ∨ it.kind = 8 by omega)]
    simp only
    split
    · unfold numCells; split <;> rfl
    · rfl
theorem akin_comm (a b : Int) : akin a b = akin b a := by
  unfold akin
  rw [Bool.and_comm (wordK a), Bool.and_comm (numK a), show decide (a = b) = decide (b = a) from decide_eq_decide.2 eq_comm]
/-- Coloured, and coloured back. -/
theorem recol_back {it : It} {k : Int} (h : recolOk it k = true) : recolOk (recol it k) it.kind = true ∧ recol (recol it k) it.kind = it ∧ (cellsOf (recol it k)).length = (cellsOf it).length ∧ (recol it k).kind = k := by
  have e : recol it k = { it with kind := k } := by unfold recol; rw [if_pos h]
  have h2 := h
  unfold recolOk at h2
  rw [Bool.and_eq_true] at h2
  obtain ⟨h3, h4⟩ := h2
  have h3 := of_decide_eq_true h3
  have hl := akin_cells h4
  have h5 : recolOk (recol it k) it.kind = true := by
    rw [e]
    unfold recolOk
    rw [Bool.and_eq_true]
    refine ⟨decide_eq_true fun e0 => h3 ?_, by rw [akin_comm]; exact h4⟩
    rw [e0] at hl
    exact List.eq_nil_of_length_eq_zero hl.symm
  refine ⟨h5, ?_, by rw [e, hl], by rw [e]⟩
  rw [show recol (recol it k) it.kind = { recol it k with kind := it.kind } by rw [recol, if_pos h5], e]
end Go.Proofs.YtogdbfjagnbllaaGreatDoor

namespace Go.Proofs.YtogdbfjagnbllaaGreatDoor
open Go.RowKit Go

abbrev itA (k : Int) (nm : ByteArray) (n : Int) (hx : Bool) (r : Int) : Value := .agg #[.int .i64 k, .string nm, .int .i32 n, .bool hx, .int .u32 r]

theorem bare_any (k : Int) (w : World) : Calls Tryz.prog 191 #[.agg #[.int .i64 k]] w fun e w' => e = .returned (itA k ⟨#[]⟩ 0 false 0) ∧ Below w.heap.size w w' := by
  go_enter Tryz.func191, Tryz.ntmps191
  go_wp2_with fail
  exact bodyPost_ret (v := itA k ⟨#[]⟩ 0 false 0) (by simp [results, Tryz.results191, go_sem]) rfl ⟨rfl, (((Below.refl _ _).alloc (Nat.le_refl _) _).alloc (by simp) _)⟩
theorem tag_any (k : Int) (h0 : 0 ≤ k) (h1 : k ≤ 9) (w : World) (hc : TabsAny w) : Calls Tryz.prog 188 #[.agg #[.int .i64 k]] w fun e w' => (∃ x : Nat, e = .returned (.int .u32 x) ∧ x < 4294967296) ∧ Below w.heap.size w w' := by
  obtain ⟨n, rfl⟩ : ∃ n : Nat, k = n := ⟨k.toNat, by omega⟩
  obtain ⟨x, hx, hcell⟩ := hc.1 n (by omega)
  have hn : n < 10 := by omega
  have hlt := lt_of_cell_tab hcell
  have hcell2 := ((Below.refl w.heap.size w).alloc (Nat.le_refl _) (.cells #[.int .i64 (n : Int)] 145)).cell hlt |>.trans hcell
  clear hc h0 h1
  go_enter Tryz.func188, Tryz.ntmps188
  go_wp2_with fail
  go_ret
  exact ⟨⟨x, rfl, hx⟩, (Below.refl _ _).alloc (Nat.le_refl _) _⟩

def itC (k : Int) (nm : ByteArray) (n : Int) (hx : Bool) (r : Int) : Array Value := #[.int .i64 k, .string nm, .int .i32 n, .bool hx, .int .u32 r]
theorem itC_cells {w : World} {g : Nat} {t : TypeId} {k : Int} {nm : ByteArray} {n : Int} {hx : Bool} {r : Int} (h : Blk w g t (itC k nm n hx r)) :
    w.cell? ⟨g, 0, none⟩ = some (.int .i64 k) ∧ w.cell? ⟨g, 1, none⟩ = some (.string nm) ∧ w.cell? ⟨g, 2, none⟩ = some (.int .i32 n) ∧ w.cell? ⟨g, 3, none⟩ = some (.bool hx) ∧ w.cell? ⟨g, 4, none⟩ = some (.int .u32 r) ∧
    w.frozen? ⟨g, 0, none⟩ = false ∧ w.frozen? ⟨g, 1, none⟩ = false ∧ w.frozen? ⟨g, 2, none⟩ = false ∧ w.frozen? ⟨g, 3, none⟩ = false ∧ w.frozen? ⟨g, 4, none⟩ = false :=
  ⟨h.cell 0, h.cell 1, h.cell 2, h.cell 3, h.cell 4, h.frozen 0, h.frozen 1, h.frozen 2, h.frozen 3, h.frozen 4⟩

theorem two_boxes {w w1 : World} {cs1 cs2 : Array Value} {t1 t2 : TypeId} (hb : Below ((w.alloc (.cells cs1 t1)).alloc (.cells cs2 t2)).heap.size ((w.alloc (.cells cs1 t1)).alloc (.cells cs2 t2)) w1) :
    Blk w1 w.heap.size t1 cs1 ∧ Blk w1 (w.heap.size + 1) t2 cs2 ∧ Below w.heap.size w w1 ∧ w.heap.size + 2 ≤ w1.heap.size := by
  have e : (w.alloc (.cells cs1 t1)).heap.size = w.heap.size + 1 := by simp
  have h2 := (Blk.new (w.alloc (.cells cs1 t1)) t2 cs2).below hb (by simp)
  rw [e] at h2
  exact ⟨((Blk.new w t1 cs1).alloc (.cells cs2 t2)).below hb (by simp; omega), h2, (((Below.refl _ _).alloc (Nat.le_refl _) _).alloc (by simp) _).trans (hb.mono (by simp; omega)), by have := hb.size; simp at this; omega⟩

/-- An item is stored over another one. -/
theorem item_put {w : World} {g : Nat} {t : TypeId} {k0 : Int} {nm0 : ByteArray} {n0 : Int} {hx0 : Bool} {r0 : Int} (h : Blk w g t (itC k0 nm0 n0 hx0 r0)) (k : Int) (nm : ByteArray) (n : Int) (hx : Bool) (r : Int) :
    Blk (((((w.setCell ⟨g, 0, none⟩ (.int .i64 k)).setCell ⟨g, 1, none⟩ (.string nm)).setCell ⟨g, 2, none⟩ (.int .i32 n)).setCell ⟨g, 3, none⟩ (.bool hx)).setCell ⟨g, 4, none⟩ (.int .u32 r)) g t (itC k nm n hx r) :=
  ((((h.put 0 (.int .i64 k)).put 1 (.string nm)).put 2 (.int .i32 n)).put 3 (.bool hx)).put 4 (.int .u32 r)
theorem item_result {w : World} {g : Nat} {t : TypeId} {k0 : Int} {nm0 : ByteArray} {n0 : Int} {hx0 : Bool} {r0 : Int} (h : Blk w g t (itC k0 nm0 n0 hx0 r0)) (k : Int) (nm : ByteArray) (n : Int) (hx : Bool) (r : Int) (o : Obj) (i : Nat) :
    ((((((w.setCell ⟨g, 0, none⟩ (.int .i64 k)).setCell ⟨g, 1, none⟩ (.string nm)).setCell ⟨g, 2, none⟩ (.int .i32 n)).setCell ⟨g, 3, none⟩ (.bool hx)).setCell ⟨g, 4, none⟩ (.int .u32 r)).alloc o).cell? ⟨g, i, none⟩ = (itC k nm n hx r)[i]? :=
  ((item_put h k nm n hx r).alloc o).cell i
end Go.Proofs.YtogdbfjagnbllaaGreatDoor

namespace Go.Proofs.YtogdbfjagnbllaaGreatDoor
open Go.RowKit Go

set_option maxHeartbeats 1000000 in
theorem word_item (k : Int) (nm : ByteArray) (w : World) : Calls Tryz.prog 190 #[.agg #[.int .i64 k, .string nm]] w fun e w' => e = .returned (itA k nm 0 false 0) ∧ Below w.heap.size w w' := by
  go_enter Tryz.func190, Tryz.ntmps190
  go_wp2_with fail
  refine (bare_any k _).mono ?_
  rintro e w1 ⟨rfl, hb⟩
  obtain ⟨k1, k2, hB, hz⟩ := two_boxes hb
  have c0 : w1.cell? ⟨w.heap.size, 1, none⟩ = some (.string nm) := k1.cell 1
  obtain ⟨d0, d1, d2, d3, d4, f0, f1, f2, f3, f4⟩ := itC_cells (k := 0) (nm := ⟨#[]⟩) (n := 0) (hx := false) (r := 0) k2
  have hz1 : w.heap.size < w1.heap.size := by omega
  have hz2 : w.heap.size + 1 < w1.heap.size := by omega
  have HB := Lib.hid hB
  have K2 := Lib.hid k2
  clear hb hB k1 k2 hz
  go_wp2_with fail
  refine bodyPost_ret (v := itA k nm 0 false 0) (by have k2 := K2.out; simp [results, Tryz.results190, item_result k2, itC, go_sem]) rfl ⟨rfl, ?_⟩
  have hB := HB.out
  go_grown
end Go.Proofs.YtogdbfjagnbllaaGreatDoor

namespace Go.Proofs.YtogdbfjagnbllaaGreatDoor
open Go.RowKit Go

set_option maxHeartbeats 1000000 in
theorem number_item (k n : Int) (hx : Bool) (w : World) : Calls Tryz.prog 193 #[.agg #[.int .i64 k, .int .i32 n, .bool hx]] w fun e w' => e = .returned (itA k ⟨#[]⟩ n hx 0) ∧ Below w.heap.size w w' := by
  go_enter Tryz.func193, Tryz.ntmps193
  go_wp2_with fail
  refine (bare_any k _).mono ?_
  rintro e w1 ⟨rfl, hb⟩
  obtain ⟨k1, k2, hB, hz⟩ := two_boxes hb
  have c0 : w1.cell? ⟨w.heap.size, 1, none⟩ = some (.int .i32 n) := k1.cell 1
  have c1 : w1.cell? ⟨w.heap.size, 2, none⟩ = some (.bool hx) := k1.cell 2
  obtain ⟨d0, d1, d2, d3, d4, f0, f1, f2, f3, f4⟩ := itC_cells (k := 0) (nm := ⟨#[]⟩) (n := 0) (hx := false) (r := 0) k2
  have hz1 : w.heap.size < w1.heap.size := by omega
  have hz2 : w.heap.size + 1 < w1.heap.size := by omega
  have HB := Lib.hid hB
  have K2 := Lib.hid k2
  clear hb hB k1 k2 hz
  go_wp2_with fail
  go_region
  all_goals go_wp2_with fail
  all_goals (refine bodyPost_ret (v := itA k ⟨#[]⟩ n hx 0) (by have k2 := K2.out; simp [results, Tryz.results193, item_result k2, itC, go_sem]) rfl ⟨rfl, ?_⟩; have hB := HB.out; go_grown)
end Go.Proofs.YtogdbfjagnbllaaGreatDoor

namespace Go.Proofs.YtogdbfjagnbllaaGreatDoor
open Go.RowKit Go

set_option maxHeartbeats 1000000 in
theorem variable_item (k n : Int) (nm : ByteArray) (w : World) : Calls Tryz.prog 196 #[.agg #[.int .i64 k, .string nm, .int .i32 n]] w fun e w' => e = .returned (itA k nm n false 0) ∧ Below w.heap.size w w' := by
  go_enter Tryz.func196, Tryz.ntmps196
  go_wp2_with fail
  refine (bare_any k _).mono ?_
  rintro e w1 ⟨rfl, hb⟩
  obtain ⟨k1, k2, hB, hz⟩ := two_boxes hb
  have c0 : w1.cell? ⟨w.heap.size, 1, none⟩ = some (.string nm) := k1.cell 1
  have c1 : w1.cell? ⟨w.heap.size, 2, none⟩ = some (.int .i32 n) := k1.cell 2
  obtain ⟨d0, d1, d2, d3, d4, f0, f1, f2, f3, f4⟩ := itC_cells (k := 0) (nm := ⟨#[]⟩) (n := 0) (hx := false) (r := 0) k2
  have hz1 : w.heap.size < w1.heap.size := by omega
  have hz2 : w.heap.size + 1 < w1.heap.size := by omega
  have HB := Lib.hid hB
  have K2 := Lib.hid k2
  clear hb hB k1 k2 hz
  go_wp2_with fail
  go_region
  all_goals go_wp2_with fail
  all_goals (refine bodyPost_ret (v := itA k nm n false 0) (by have k2 := K2.out; simp [results, Tryz.results196, item_result k2, itC, go_sem]) rfl ⟨rfl, ?_⟩; have hB := HB.out; go_grown)
end Go.Proofs.YtogdbfjagnbllaaGreatDoor

namespace Go.Proofs.YtogdbfjagnbllaaGreatDoor
open Go.RowKit Go

set_option maxHeartbeats 1000000 in
theorem raw_item (k r : Int) (w : World) : Calls Tryz.prog 198 #[.agg #[.int .i64 k, .int .u32 r]] w fun e w' => e = .returned (itA k ⟨#[]⟩ 0 false r) ∧ Below w.heap.size w w' := by
  go_enter Tryz.func198, Tryz.ntmps198
  go_wp2_with fail
  refine (bare_any k _).mono ?_
  rintro e w1 ⟨rfl, hb⟩
  obtain ⟨k1, k2, hB, hz⟩ := two_boxes hb
  have c0 : w1.cell? ⟨w.heap.size, 1, none⟩ = some (.int .u32 r) := k1.cell 1
  obtain ⟨d0, d1, d2, d3, d4, f0, f1, f2, f3, f4⟩ := itC_cells (k := 0) (nm := ⟨#[]⟩) (n := 0) (hx := false) (r := 0) k2
  have hz1 : w.heap.size < w1.heap.size := by omega
  have hz2 : w.heap.size + 1 < w1.heap.size := by omega
  have HB := Lib.hid hB
  have K2 := Lib.hid k2
  clear hb hB k1 k2 hz
  go_wp2_with fail
  refine bodyPost_ret (v := itA k ⟨#[]⟩ 0 false r) (by have k2 := K2.out; simp [results, Tryz.results198, item_result k2, itC, go_sem]) rfl ⟨rfl, ?_⟩
  have hB := HB.out
  go_grown
end Go.Proofs.YtogdbfjagnbllaaGreatDoor

namespace Go.Proofs.YtogdbfjagnbllaaGreatDoor
open Go.RowKit Go

theorem new_cells {w w2 : World} {g : Nat} {zs : List Nat} (hg : g = w2.heap.size) (hz : ∀ z ∈ zs, z < 4294967296) (hl : zs.length ≤ 2) (hB : Below w.heap.size w w2) :
    NewLen w zs.length (.returned (.slice (some ⟨g, 0, none⟩) zs.length zs.length)) (w2.alloc (.cells (zs.map u32v).toArray 36)) := by
  subst hg
  exact ⟨_, zs, rfl, rfl, hz, ⟨by simp, .inr ⟨w2.heap.size, zs.length, _, rfl, hB.size, heap_alloc_new _ _, Nat.le_refl _, by unfold maxLen; omega, by simp, by simp; exact List.take_of_length_le (by simp)⟩⟩, hB.alloc hB.size _⟩
theorem new_emp {w w2 : World} {g : Nat} (hg : g = w2.heap.size) (hB : Below w.heap.size w w2) : NewLen w 0 (.returned (.slice (some ⟨g, 0, none⟩) 0 0)) (w2.alloc (.cells #[] 36)) :=
  new_cells (zs := []) hg (fun _ hz => absurd hz List.not_mem_nil) (Nat.zero_le 2) hB
theorem new_one {w w2 : World} {g : Nat} {y : Int} (hg : g = w2.heap.size) (hy : ∃ m : Nat, y = (m : Int) ∧ m < 4294967296) (hB : Below w.heap.size w w2) :
    NewLen w 1 (.returned (.slice (some ⟨g, 0, none⟩) 1 1)) (w2.alloc (.cells #[.int .u32 y] 36)) := by
  obtain ⟨m, rfl, hm⟩ := hy
  exact new_cells (zs := [m]) hg (fun z hz => by rw [List.mem_singleton.1 hz]; exact hm) (Nat.le_succ 1) hB
theorem new_two {w w2 : World} {g : Nat} {y z : Int} (hg : g = w2.heap.size) (hy : ∃ m : Nat, y = (m : Int) ∧ m < 4294967296) (hz : ∃ m : Nat, z = (m : Int) ∧ m < 4294967296) (hB : Below w.heap.size w w2) :
    NewLen w 2 (.returned (.slice (some ⟨g, 0, none⟩) 2 2)) (w2.alloc (.cells #[.int .u32 y, .int .u32 z] 36)) := by
  obtain ⟨m, rfl, hm⟩ := hy
  obtain ⟨n, rfl, hn⟩ := hz
  exact new_cells (zs := [m, n]) hg (fun z hz => by
    rcases List.mem_cons.1 hz with h | h
    · rw [h]; exact hm
    · rw [List.mem_singleton.1 h]; exact hn) (Nat.le_refl 2) hB
theorem u32_some (x : Int) : ∃ n : Nat, IntKind.u32.wrap x = (n : Int) ∧ n < 4294967296 := ⟨(x % 4294967296).toNat, by rw [IntKind.wrap_u32]; omega, by omega⟩
theorem u32_mod (x : Int) : ∃ n : Nat, x % 4294967296 = (n : Int) ∧ n < 4294967296 := ⟨(x % 4294967296).toNat, by omega, by omega⟩

set_option maxHeartbeats 1000000 in
theorem raw_cells (k : Int) (r : Nat) (hr : r < 4294967296) (w : World) : Calls Tryz.prog 197 #[.agg #[.int .i64 k, .int .u32 r]] w (NewLen w 1) := by
  have HR := Lib.hid hr
  clear hr
  go_enter Tryz.func197, Tryz.ntmps197
  go_wp2_with fail
  go_ret
  exact new_one (by simp) ⟨r, rfl, HR.out⟩ ((Below.refl _ _).alloc (Nat.le_refl _) _)
set_option maxHeartbeats 1000000 in
theorem widetag_any (k n : Int) (hx : Bool) (w : World) : Calls Tryz.prog 194 #[.agg #[.int .i64 k, .int .i32 n, .bool hx]] w fun e w' => (∃ x : Nat, e = .returned (.int .u32 x) ∧ x < 4294967296) ∧ Below w.heap.size w w' := by
  by_cases h : k = 7
  · have h7 : (k == 7) = true := by simpa using h
    clear h
    go_enter Tryz.func194, Tryz.ntmps194
    go_wp2_with fail
    go_ret
    exact ⟨⟨2, rfl, by omega⟩, (Below.refl _ _).alloc (Nat.le_refl _) _⟩
  · have h7 : (k == 7) = false := by simpa using h
    clear h
    go_enter Tryz.func194, Tryz.ntmps194
    go_wp2_with fail
    go_ret
    exact ⟨⟨5, rfl, by omega⟩, (Below.refl _ _).alloc (Nat.le_refl _) _⟩
end Go.Proofs.YtogdbfjagnbllaaGreatDoor

namespace Go.Proofs.YtogdbfjagnbllaaGreatDoor
open Go.RowKit Go

theorem num_box {w w' : World} {k n : Int} {hx : Bool} {t : TypeId} (hB : Below (w.heap.size + 1) (w.alloc (.cells #[.int .i64 k, .int .i32 n, .bool hx] t)) w') :
    w'.cell? ⟨w.heap.size, 0, none⟩ = some (.int .i64 k) ∧ w'.cell? ⟨w.heap.size, 1, none⟩ = some (.int .i32 n) ∧ w'.cell? ⟨w.heap.size, 2, none⟩ = some (.bool hx) ∧ Below w.heap.size w w' := by
  have h := (Blk.new w t #[.int .i64 k, .int .i32 n, .bool hx]).below hB (by omega)
  exact ⟨h.cell 0, h.cell 1, h.cell 2, ((Below.refl _ _).alloc (Nat.le_refl _) _).trans (hB.mono (by omega))⟩
theorem num_keep {w W w2 : World} {k n : Int} {hx : Bool} {t : TypeId} (h1 : Below (w.heap.size + 1) (w.alloc (.cells #[.int .i64 k, .int .i32 n, .bool hx] t)) W) (h2 : Below W.heap.size W w2) :
    w2.cell? ⟨w.heap.size, 0, none⟩ = some (.int .i64 k) ∧ w2.cell? ⟨w.heap.size, 1, none⟩ = some (.int .i32 n) ∧ w2.cell? ⟨w.heap.size, 2, none⟩ = some (.bool hx) ∧ Below w.heap.size w w2 :=
  num_box (h1.trans (h2.mono (by have := h1.size; simp at this; omega)))

theorem num3 {a b c d : Prop} (h : a ∧ b ∧ c ∧ d) : a ∧ b ∧ c := ⟨h.1, h.2.1, h.2.2.1⟩

set_option maxHeartbeats 2000000 in
theorem number_narrow (k n : Int) (hx : Bool) (h0 : 0 ≤ k) (h1 : k ≤ 9) (hn1 : -67108864 ≤ n) (hn2 : n ≤ 67108863) (w : World) (hcs : TabsAny w) : Calls Tryz.prog 192 #[.agg #[.int .i64 k, .int .i32 n, .bool hx]] w (NewLen w 1) := by
  have HT : Hid (∀ W, Below w.heap.size w W → Calls Tryz.prog 188 #[.agg #[.int .i64 k]] W fun e w' => (∃ x : Nat, e = .returned (.int .u32 x) ∧ x < 4294967296) ∧ Below W.heap.size W w') := Lib.hid fun W hb => tag_any k h0 h1 W (hcs.below hb)
  clear hcs h0 h1
  cases hx with
  | true =>
    go_enter Tryz.func192, Tryz.ntmps192
    go_wp2_with fail
    have hbx : Below (w.heap.size + 1) (w.alloc (.cells #[.int .i64 k, .int .i32 n, .bool true] 150)) (w.alloc (.cells #[.int .i64 k, .int .i32 n, .bool true] 150)).drew := (Below.refl _ _).drew
    have HBX := Lib.hid hbx
    clear hbx
    go_region_held3 (fun w' => w'.cell? ⟨w.heap.size, 0, none⟩ = some (.int .i64 k) ∧ w'.cell? ⟨w.heap.size, 1, none⟩ = some (.int .i32 n) ∧ w'.cell? ⟨w.heap.size, 2, none⟩ = some (.bool true)) (first | exact num3 (num_box HBX.out) | go_keep | exact num3 (num_keep HBX.out hb2)) (first | (go_at_call 188; refine (HT.out _ (num_box HBX.out).2.2.2).mono ?_; rintro e w2 ⟨⟨x, rfl, hx⟩, hb2⟩))
    go_wp2
    go_ret
    exact new_one rfl (or_nat _ _) (num_keep HBX.out hb2).2.2.2
  | false =>
    go_enter Tryz.func192, Tryz.ntmps192
    go_wp2_with fail
    have hbx : Below (w.heap.size + 1) (w.alloc (.cells #[.int .i64 k, .int .i32 n, .bool false] 150)) (w.alloc (.cells #[.int .i64 k, .int .i32 n, .bool false] 150)).drew := (Below.refl _ _).drew
    have HBX := Lib.hid hbx
    clear hbx
    go_region_held3 (fun w' => w'.cell? ⟨w.heap.size, 0, none⟩ = some (.int .i64 k) ∧ w'.cell? ⟨w.heap.size, 1, none⟩ = some (.int .i32 n) ∧ w'.cell? ⟨w.heap.size, 2, none⟩ = some (.bool false)) (first | exact num3 (num_box HBX.out) | go_keep | exact num3 (num_keep HBX.out hb2)) (first | (go_at_call 188; refine (HT.out _ (num_box HBX.out).2.2.2).mono ?_; rintro e w2 ⟨⟨x, rfl, hx⟩, hb2⟩))
    go_wp2
    go_ret
    exact new_one rfl (or_nat _ _) (num_keep HBX.out hb2).2.2.2

set_option maxHeartbeats 2000000 in
theorem number_wide (k n : Int) (hx : Bool) (hn : n < -67108864 ∨ 67108863 < n) (w : World) : Calls Tryz.prog 192 #[.agg #[.int .i64 k, .int .i32 n, .bool hx]] w (NewLen w 2) := by
  have HT : Hid (∀ W, Calls Tryz.prog 194 #[.agg #[.int .i64 k, .int .i32 n, .bool hx]] W fun e w' => (∃ x : Nat, e = .returned (.int .u32 x) ∧ x < 4294967296) ∧ Below W.heap.size W w') := Lib.hid fun W => widetag_any k n hx W
  rcases hn with hn | hn
  · cases hx with
    | true =>
      go_enter Tryz.func192, Tryz.ntmps192
      go_wp2_with fail
      have hbx : Below (w.heap.size + 1) (w.alloc (.cells #[.int .i64 k, .int .i32 n, .bool true] 150)) (w.alloc (.cells #[.int .i64 k, .int .i32 n, .bool true] 150)).drew := (Below.refl _ _).drew
      have HBX := Lib.hid hbx
      clear hbx
      go_region_held3 (fun w' => w'.cell? ⟨w.heap.size, 0, none⟩ = some (.int .i64 k) ∧ w'.cell? ⟨w.heap.size, 1, none⟩ = some (.int .i32 n) ∧ w'.cell? ⟨w.heap.size, 2, none⟩ = some (.bool true)) (first | exact num3 (num_box HBX.out) | go_keep | exact num3 (num_keep HBX.out hb2)) (first | (go_at_call 194; refine (HT.out _).mono ?_; rintro e w2 ⟨⟨x, rfl, hx⟩, hb2⟩))
      go_wp2
      go_ret
      exact new_two rfl (or_nat _ _) (u32_some _) (num_keep HBX.out hb2).2.2.2
    | false =>
      go_enter Tryz.func192, Tryz.ntmps192
      go_wp2_with fail
      have hbx : Below (w.heap.size + 1) (w.alloc (.cells #[.int .i64 k, .int .i32 n, .bool false] 150)) (w.alloc (.cells #[.int .i64 k, .int .i32 n, .bool false] 150)).drew := (Below.refl _ _).drew
      have HBX := Lib.hid hbx
      clear hbx
      go_region_held3 (fun w' => w'.cell? ⟨w.heap.size, 0, none⟩ = some (.int .i64 k) ∧ w'.cell? ⟨w.heap.size, 1, none⟩ = some (.int .i32 n) ∧ w'.cell? ⟨w.heap.size, 2, none⟩ = some (.bool false)) (first | exact num3 (num_box HBX.out) | go_keep | exact num3 (num_keep HBX.out hb2)) (first | (go_at_call 194; refine (HT.out _).mono ?_; rintro e w2 ⟨⟨x, rfl, hx⟩, hb2⟩))
      go_wp2
      go_ret
      exact new_two rfl (or_nat _ _) (u32_some _) (num_keep HBX.out hb2).2.2.2
  · have hn2 : -67108864 ≤ n := by omega
    cases hx with
    | true =>
      go_enter Tryz.func192, Tryz.ntmps192
      go_wp2_with fail
      have hbx : Below (w.heap.size + 1) (w.alloc (.cells #[.int .i64 k, .int .i32 n, .bool true] 150)) (w.alloc (.cells #[.int .i64 k, .int .i32 n, .bool true] 150)).drew := (Below.refl _ _).drew
      have HBX := Lib.hid hbx
      clear hbx
      go_region_held3 (fun w' => w'.cell? ⟨w.heap.size, 0, none⟩ = some (.int .i64 k) ∧ w'.cell? ⟨w.heap.size, 1, none⟩ = some (.int .i32 n) ∧ w'.cell? ⟨w.heap.size, 2, none⟩ = some (.bool true)) (first | exact num3 (num_box HBX.out) | go_keep | exact num3 (num_keep HBX.out hb2)) (first | (go_at_call 194; refine (HT.out _).mono ?_; rintro e w2 ⟨⟨x, rfl, hx⟩, hb2⟩))
      go_wp2
      go_ret
      exact new_two rfl (or_nat _ _) (u32_some _) (num_keep HBX.out hb2).2.2.2
    | false =>
      go_enter Tryz.func192, Tryz.ntmps192
      go_wp2_with fail
      have hbx : Below (w.heap.size + 1) (w.alloc (.cells #[.int .i64 k, .int .i32 n, .bool false] 150)) (w.alloc (.cells #[.int .i64 k, .int .i32 n, .bool false] 150)).drew := (Below.refl _ _).drew
      have HBX := Lib.hid hbx
      clear hbx
      go_region_held3 (fun w' => w'.cell? ⟨w.heap.size, 0, none⟩ = some (.int .i64 k) ∧ w'.cell? ⟨w.heap.size, 1, none⟩ = some (.int .i32 n) ∧ w'.cell? ⟨w.heap.size, 2, none⟩ = some (.bool false)) (first | exact num3 (num_box HBX.out) | go_keep | exact num3 (num_keep HBX.out hb2)) (first | (go_at_call 194; refine (HT.out _).mono ?_; rintro e w2 ⟨⟨x, rfl, hx⟩, hb2⟩))
      go_wp2
      go_ret
      exact new_two rfl (or_nat _ _) (u32_some _) (num_keep HBX.out hb2).2.2.2
end Go.Proofs.YtogdbfjagnbllaaGreatDoor

namespace Go.Proofs.YtogdbfjagnbllaaGreatDoor
open Go.RowKit Go

theorem var_box {w w' : World} {k n : Int} {nm : ByteArray} {t : TypeId} (hB : Below (w.heap.size + 1) (w.alloc (.cells #[.int .i64 k, .string nm, .int .i32 n] t)) w') :
    w'.cell? ⟨w.heap.size, 0, none⟩ = some (.int .i64 k) ∧ w'.cell? ⟨w.heap.size, 1, none⟩ = some (.string nm) ∧ w'.cell? ⟨w.heap.size, 2, none⟩ = some (.int .i32 n) ∧ Below w.heap.size w w' := by
  have h := (Blk.new w t #[.int .i64 k, .string nm, .int .i32 n]).below hB (by omega)
  exact ⟨h.cell 0, h.cell 1, h.cell 2, ((Below.refl _ _).alloc (Nat.le_refl _) _).trans (hB.mono (by omega))⟩
/-- A list of one number. -/
theorem own_one {w : World} {base : Nat} {v : Value} {zs : List Nat} (h : w.ownsRow base 36 1 v zs.length (zs.map u32v)) (h1 : zs.length = 1) : ∃ (g cap z : Nat), v = .slice (some ⟨g, 0, none⟩) 1 cap ∧ w.cell? ⟨g, 0, none⟩ = some (.int .u32 (z : Int)) ∧ g < w.heap.size := by
  match zs, h1 with
  | [z], _ =>
    rcases h.2 with ⟨_, h0⟩ | ⟨g, cap, cur, rfl, hb, hg, hn, hm, hsz, ht⟩
    · simp at h0
    · refine ⟨g, cap, z, rfl, ?_, (Array.getElem?_eq_some_iff.1 hg).1⟩
      rw [cell_of_row w g 0 cur 36 (0, 0) hg]
      have h2 := congrArg (·[0]?) ht
      simpa [List.getElem?_take, u32v] using h2

theorem own_slice {w : World} {base : Nat} {e : TypeId} {size : Nat} {v : Value} {n : Nat} {xs : List Value} (h : w.ownsRow base e size v n xs) : ∃ A cap, v = .slice A n cap := by
  rcases h.2 with ⟨rfl, rfl⟩ | ⟨g, cap, cur, rfl, _⟩
  · exact ⟨_, _, rfl⟩
  · exact ⟨_, _, rfl⟩
theorem var_keep {w w1 w2 : World} {k n : Int} {nm : ByteArray} {t : TypeId} {g : Nat} {z : Int} (h1 : Below (w.heap.size + 1) (w.alloc (.cells #[.int .i64 k, .string nm, .int .i32 n] t)) w1) (hs : w.heap.size + 1 ≤ w1.heap.size) (hg : g < w1.heap.size)
    (hc : w1.cell? ⟨g, 0, none⟩ = some (.int .u32 z)) (h2 : Below w1.drew.heap.size w1.drew w2) : w2.cell? ⟨w.heap.size, 0, none⟩ = some (.int .i64 k) ∧ w2.cell? ⟨w.heap.size, 2, none⟩ = some (.int .i32 n) ∧ w2.cell? ⟨g, 0, none⟩ = some (.int .u32 z) := by
  obtain ⟨c0, _, c2, _⟩ := var_box (h1.drew.trans (h2.mono hs))
  exact ⟨c0, c2, (h2.cell (p := ⟨g, 0, none⟩) hg).trans hc⟩

set_option maxHeartbeats 2000000 in
theorem variable_cells (k n : Int) (nm : ByteArray) (h0 : 0 ≤ k) (h1 : k ≤ 9) (hs : nm.size ≤ 4611686018427387904) (w : World) (hcs : TabsAny w) :
    Calls Tryz.prog 195 #[.agg #[.int .i64 k, .string nm, .int .i32 n]] w (NewLen w (if (packs nm.data.toList).length = 1 then 2 else 0)) := by
  have HT : Hid (∀ W, Below w.heap.size w W → Calls Tryz.prog 188 #[.agg #[.int .i64 k]] W fun e w' => (∃ x : Nat, e = .returned (.int .u32 x) ∧ x < 4294967296) ∧ Below W.heap.size W w') := Lib.hid fun W hb => tag_any k h0 h1 W (hcs.below hb)
  have HP : Hid (∀ W, Below w.heap.size w W → Calls Tryz.prog 151 #[.string nm] W (NewLen W (packs nm.data.toList).length)) := Lib.hid fun W hb => impl_packany nm hs W (hcs.below hb)
  obtain ⟨m, hm⟩ : ∃ m, (packs nm.data.toList).length = m := ⟨_, rfl⟩
  rw [hm] at HP ⊢
  clear hcs h0 h1 hm hs
  by_cases h1 : m = 1
  · rw [if_pos h1]
    have H1 := Lib.hid h1
    clear h1
    go_enter Tryz.func195, Tryz.ntmps195
    go_wp2_with fail
    refine (HP.out _ ((Below.refl _ _).alloc (Nat.le_refl _) _)).mono ?_
    rintro e w1 ⟨v, zs, rfl, hl, -, hown, hb1⟩
    have hb1' : Below (w.heap.size + 1) (w.alloc (.cells #[.int .i64 k, .string nm, .int .i32 n] 152)) w1 := hb1.mono (by simp)
    have hs1 := hb1.size
    obtain ⟨g, cap, z, rfl, hcell, hg⟩ := own_one hown (hl.trans H1.out)
    have HBX := Lib.hid hb1'
    have hz1 : w.heap.size + 1 ≤ w1.heap.size := by simp at hs1; omega
    obtain ⟨c0, c1, c2, hB⟩ := var_box hb1'
    have HB := Lib.hid hB
    have HG := Lib.hid hg
    have HCG := Lib.hid hcell
    have HZ := Lib.hid hz1
    clear hown hb1 hb1' hl hB hs1 hg HP hz1
    go_wp2_with fail
    go_region_held3 (fun w' => w'.cell? ⟨w.heap.size, 0, none⟩ = some (.int .i64 k) ∧ w'.cell? ⟨w.heap.size, 2, none⟩ = some (.int .i32 n) ∧ w'.cell? ⟨g, 0, none⟩ = some (.int .u32 (z : Int))) (first | exact ⟨c0, c2, hcell⟩ | go_keep | exact var_keep HBX.out HZ.out HG.out HCG.out hb2) (first | (go_at_call 188; refine (HT.out _ HB.out.drew).mono ?_; rintro e w2 ⟨⟨x, rfl, hx⟩, hb2⟩))
    go_wp2
    go_ret
    exact new_two rfl (or_nat _ _) (u32_some _) (HB.out.drew.trans (hb2.mono HB.out.size))
  · rw [if_neg h1]
    go_enter Tryz.func195, Tryz.ntmps195
    go_wp2_with fail
    refine (HP.out _ ((Below.refl _ _).alloc (Nat.le_refl _) _)).mono ?_
    rintro e w1 ⟨v, zs, rfl, hl, -, hown, hb1⟩
    obtain ⟨A, cap, rfl⟩ := own_slice hown
    have hne : ((zs.length : Int) != 1) = true := by simp; omega
    have HB := Lib.hid ((((Below.refl w.heap.size w).alloc (Nat.le_refl _) _)).trans (hb1.mono (by simp)))
    clear hown hb1 hl h1 HP
    go_wp2_with fail
    go_ret
    exact ⟨_, [], rfl, rfl, fun z hz => absurd hz List.not_mem_nil, World.ownsRow_nil _ _ _ _, HB.out⟩
end Go.Proofs.YtogdbfjagnbllaaGreatDoor

namespace Go.Proofs.YtogdbfjagnbllaaGreatDoor
open Go.RowKit Go

theorem map_setU (zs : List Nat) (i x : Nat) : (zs.map u32v).set i (u32v x) = (zs.set i x).map u32v := List.map_set.symm
theorem small_set {zs : List Nat} (h : ∀ z ∈ zs, z < 4294967296) (i : Nat) {x : Nat} (hx : x < 4294967296) : ∀ z ∈ zs.set i x, z < 4294967296 := by
  intro z hz
  rcases List.mem_or_eq_of_mem_set hz with h1 | h1
  · exact h z h1
  · rw [h1]; exact hx

set_option maxHeartbeats 2000000 in
theorem word_cells (k : Int) (nm : ByteArray) (h0 : 0 ≤ k) (h1 : k ≤ 9) (hs : nm.size ≤ 4611686018427387904) (w : World) (hcs : TabsAny w) :
    Calls Tryz.prog 189 #[.agg #[.int .i64 k, .string nm]] w (NewLen w (packs nm.data.toList).length) := by
  have HT : Hid (∀ W, Below w.heap.size w W → Calls Tryz.prog 188 #[.agg #[.int .i64 k]] W fun e w' => (∃ x : Nat, e = .returned (.int .u32 x) ∧ x < 4294967296) ∧ Below W.heap.size W w') := Lib.hid fun W hb => tag_any k h0 h1 W (hcs.below hb)
  have HP : Hid (∀ W, Below w.heap.size w W → Calls Tryz.prog 151 #[.string nm] W (NewLen W (packs nm.data.toList).length)) := Lib.hid fun W hb => impl_packany nm hs W (hcs.below hb)
  have hm24 := (packs_len nm.data.toList).2
  obtain ⟨m, hm⟩ : ∃ m, (packs nm.data.toList).length = m := ⟨_, rfl⟩
  rw [hm] at HP hm24 ⊢
  clear hcs h0 h1 hm hs
  go_enter Tryz.func189, Tryz.ntmps189
  go_wp2_with fail
  refine (HT.out _ ((Below.refl _ _).alloc (Nat.le_refl _) _)).mono ?_
  rintro e w1 ⟨⟨x, rfl, hx⟩, hb1⟩
  have k1 := (Blk.new w 148 #[.int .i64 k, .string nm]).below hb1 (by simp)
  have c1 : w1.cell? ⟨w.heap.size, 1, none⟩ = some (.string nm) := k1.cell 1
  have HB1 := Lib.hid (((Below.refl w.heap.size w).alloc (Nat.le_refl _) _).trans (hb1.mono (by simp)))
  clear hb1 k1 HT
  go_wp2_with fail
  refine (HP.out _ HB1.out).mono ?_
  rintro e w2 ⟨v, zs, rfl, hl, hz, hown, hb2⟩
  have HB2 := Lib.hid (HB1.out.trans (hb2.mono HB1.out.size))
  have HO := Lib.hid (own_base hown HB1.out.size)
  have HZ := Lib.hid hz
  subst hl
  rcases hown.2 with ⟨rfl, h0⟩ | ⟨g, cap, cur, rfl, -⟩
  · obtain rfl : zs = [] := List.eq_nil_of_length_eq_zero h0
    clear hb2 hown hz HP c1 h0
    go_wp2_with fail
    go_loopw [3, 15] (fun vt vi wr => ∃ x : Nat, vt = .int .u32 x ∧ vi = .int .i64 0 ∧ wr = w2) (fun _ _ _ => 0)
    case atStart => exact ⟨x, rfl, rfl, rfl⟩
    case round =>
      obtain ⟨y, rfl, rfl, rfl⟩ := hrel
      go_wp2_with fail
      go_ret
      exact ⟨_, [], rfl, rfl, fun z hz => absurd hz List.not_mem_nil, World.ownsRow_nil _ _ _ _, HB2.out⟩
  · clear hb2 hown hz HP c1
    go_wp2_with fail
    go_loopw [3, 15] (fun vt vi wr => ∃ (x i : Nat) (ys : List Nat), vt = .int .u32 x ∧ vi = .int .i64 i ∧ i ≤ zs.length ∧ Hid (x < 4294967296) ∧ Hid (ys.length = zs.length ∧ ∀ z ∈ ys, z < 4294967296) ∧ wr.ownsRow w.heap.size 36 1 (.slice (some ⟨g, 0, none⟩) zs.length cap) zs.length (ys.map u32v) ∧ Below w.heap.size w wr) (fun _ vi _ => zs.length - (intOf vi).toNat)
    case atStart => exact ⟨x, 0, zs, rfl, rfl, by omega, Lib.hid hx, Lib.hid ⟨rfl, HZ.out⟩, HO.out, HB2.out⟩
    case round =>
      obtain ⟨x, i, ys, rfl, rfl, hi, HX, HY, hO, hB⟩ := hrel
      by_cases hp : i < zs.length
      · have hpy : i < ys.length := by rw [HY.out.1]; exact hp
        have hzi := HY.out.2 _ (List.getElem_mem hpy)
        have hd : wr.cell? ⟨g, i, none⟩ = some (u32v ys[i]) := by
          rw [hO.cellAt i (by omega)]
          simp [hpy]
        obtain ⟨z, hzz⟩ : ∃ z, ys[i] = z := ⟨_, rfl⟩
        rw [hzz] at hd hzi
        change wr.cell? ⟨g, i, none⟩ = some (.int .u32 (z : Int)) at hd
        obtain ⟨y, hy, hyl⟩ := or_nat ((z : Int) * 16 % 4294967296) (x : Int)
        have HYL := Lib.hid hyl
        have hs := hO.stored i (.int .u32 (y : Int))
        have HS := Lib.hid hs
        clear hyl hs
        have hf := hO.frozenAt i
        have i2 : (i : Int) < (zs.length : Int) := by omega
        have HGB := Lib.hid (own_lt hO g rfl)
        have HB := Lib.hid hB
        clear hO hB hzz hpy HO HB2 HB1 HZ
        go_wp2_with fail
        go_roundw
        case rel => exact ⟨0, i + 1, ys.set i y, rfl, by go_num, by omega, Lib.hid (by omega), Lib.hid ⟨by rw [List.length_set]; exact HY.out.1, small_set HY.out.2 i HYL.out⟩, by rw [← map_setU]; exact HS.out.1, HB.out.grown HS.out.2 HB.out.size (fun k hk => by obtain rfl := Option.some.inj hk; exact HGB.out)⟩
        case measure => simp [intOf]; omega
      · obtain rfl : i = zs.length := by omega
        go_wp2_with fail
        go_ret
        exact ⟨_, ys, rfl, HY.out.1, HY.out.2, by rw [HY.out.1]; exact hO, hB⟩
end Go.Proofs.YtogdbfjagnbllaaGreatDoor
