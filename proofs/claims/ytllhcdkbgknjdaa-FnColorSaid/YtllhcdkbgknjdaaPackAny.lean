/-
  Pack of the program, whatever its tables hold: as many fields as the name has.
-/
import Derived.Test.YtllhcdkbgknjdaaTabAny
import Derived.Test.YtllhcdkbgknjdaaPackSpec
namespace Go.Proofs.Ytllhcdkbgknjdaa
open Go.RowKit Go

def SomeU32 (w : World) (e : Ending) (w' : World) : Prop := ∃ b : Nat, e = .returned (.int .u32 b) ∧ b < 4294967296 ∧ w = w'
theorem impl_bitsany (k : Int) (w : World) (hc : TabsAny w) : Calls Try.prog 70 #[.int .i64 k] w (SomeU32 w) := by
  by_cases h : 0 ≤ k ∧ k ≤ 47
  · obtain ⟨n, rfl⟩ : ∃ n : Nat, k = n := ⟨k.toNat, by omega⟩
    have hb := Lib.hid (inB_true h.1 h.2)
    have hi := Lib.hid (isletter_any (n : Int) w)
    have hn : n < 48 := by omega
    obtain ⟨v, hv, hcell⟩ := hc.2 n hn
    clear h hc
    go_enter Try.func70, Try.ntmps70
    go_wp2_with fail
    refine hi.out.mono ?_
    rintro e w' ⟨he, rfl⟩
    rw [hb.out] at he
    subst he
    go_wp2_with fail
    go_ret
    exact ⟨v, rfl, by omega, rfl⟩
  · have hb := Lib.hid (inB_false h)
    clear h hc
    go_enter Try.func70, Try.ntmps70
    go_wp2_with fail
    refine (isletter_any _ _).mono ?_
    rintro e w' ⟨he, rfl⟩
    rw [hb.out] at he
    subst he
    go_wp2_with fail
    go_ret
    exact ⟨0, rfl, by omega, rfl⟩
theorem or_nat (x y : Int) : ∃ n : Nat, bits .or .u32 x y = (n : Int) ∧ n < 4294967296 := by
  have h : bits .or .u32 x y = IntKind.u32.wrap ((BitVec.ofInt 32 x ||| BitVec.ofInt 32 y).toNat : Int) := rfl
  rw [h, IntKind.wrap_u32]
  exact ⟨((((BitVec.ofInt 32 x ||| BitVec.ofInt 32 y).toNat : Int)) % 4294967296).toNat, by omega, by omega⟩
/-- Filling a field takes just so many letters. -/
def Filled (n : Nat) (w : World) (e : Ending) (w' : World) : Prop := ∃ x : Nat, e = .returned (.tuple #[.int .u32 x, .int .i64 (n : Int)]) ∧ x < 4294967296 ∧ w = w'

set_option maxHeartbeats 1000000 in
theorem impl_fillany (v : Value) (l : List UInt8) (w : World) (hv : RdB w v l) (hcs : TabsAny w) :
    Calls Try.prog 67 #[v] w (Filled (fillN 28 l).2 w) := by
  obtain ⟨A, cap, rfl, hlc, hl62, hcell⟩ := hv
  have HC := Lib.hid hcell
  obtain ⟨p, q, hpq⟩ : ∃ p q, fillN 28 l = (p, q) := ⟨_, _, rfl⟩
  rw [hpq]
  have HD : Hid (∀ F free n, Fill l F free n → n = l.length → q = n) := Lib.hid fun F free n h e => by
    rw [h.done e] at hpq; injection hpq with e1 e2; exact e2.symm
  have HF : Hid (∀ F free n (h : Fill l F free n) (hn : n < l.length), free < wB l[n] → q = n) := Lib.hid fun F free n h hn e => by
    rw [h.full hn e] at hpq; injection hpq with e1 e2; exact e2.symm
  have HCS := Lib.hid hcs
  clear hpq hcell hcs hlc
  go_enter Try.func67, Try.ntmps67
  go_wp2
  go_loop [4, 5, 12] (fun vf vl vn => ∃ x F free n : Nat, vf = .int .u32 x ∧ vl = .int .i64 free ∧ vn = .int .i64 n ∧ x < 4294967296 ∧ Hid (Fill l F free n)) (fun _ _ vn => l.length - (intOf vn).toNat)
  case atStart => exact ⟨0, 0, 28, 0, rfl, rfl, rfl, by omega, Lib.hid (Fill.start l)⟩
  case round =>
    obtain ⟨x, F, free, n, rfl, rfl, rfl, hx, HR⟩ := hrel
    have hn := HR.out.nle
    have h28 := HR.out.le
    by_cases hp : n < l.length
    · obtain ⟨a, rfl, -, hc⟩ := HC.out n hp
      have hck := u8_le l[n]
      have hw := wB_le l[n]
      have HL : Hid (∀ W, Calls Try.prog 68 #[.int .u8 (l[n].toNat : Int)] W fun e w' => e = .returned (.int .i64 (letOf l[n])) ∧ W = w') := Lib.hid fun W => impl_letterof l[n] W
      have HW : Hid (∀ W, Calls Try.prog 69 #[.int .i64 (letOf l[n])] W fun e w' => e = .returned (.int .i64 (wB l[n] : Int)) ∧ W = w') := Lib.hid fun W => by rw [wB_int]; exact impl_widthof _ W
      have HB := Lib.hid (impl_bitsany (letOf l[n]) w HCS.out)
      have hFull := HF.out F free n HR.out hp
      have hMore := HR.out.more hp
      have HLr := letOf_range l[n]
      obtain ⟨z, hz⟩ : ∃ z, letOf l[n] = z := ⟨_, rfl⟩
      obtain ⟨d, hd⟩ : ∃ d, wB l[n] = d := ⟨_, rfl⟩
      rw [hz] at HL HW HB HLr
      rw [hd] at HW hFull hMore hw
      have HFULL := Lib.hid hFull
      have HMORE := Lib.hid hMore
      clear hz hd hFull hMore
      by_cases hfit : d ≤ free
      · have HM := Lib.hid (HMORE.out hfit)
        have hnn : (0 : Int) ≤ (free : Int) - (d : Int) := by omega
        go_wp2_with fail
        refine (HL.out _).mono ?_
        rintro e w' ⟨rfl, rfl⟩
        go_wp2_with fail
        refine (HW.out _).mono ?_
        rintro e w' ⟨rfl, rfl⟩
        go_wp2_with fail
        refine HB.out.mono ?_
        rintro e w' ⟨b, rfl, hb, rfl⟩
        obtain ⟨y, hy, hyl⟩ := or_nat (x : Int) ((b : Int) * 2 ^ (free - d) % 4294967296)
        have HYL := Lib.hid hyl
        clear hyl
        go_wp2_with fail
        go_round
        case rel => exact ⟨y, _, free - d, n + 1, by first | rfl | go_num | (simpa using hy), by go_num, by go_num, HYL.out, HM⟩
        case measure => simp [intOf]; omega
      · have hgt : free < d := by omega
        have HQ := Lib.hid (HFULL.out (by omega))
        clear hfit
        go_wp2_with fail
        refine (HL.out _).mono ?_
        rintro e w' ⟨rfl, rfl⟩
        go_wp2_with fail
        refine (HW.out _).mono ?_
        rintro e w' ⟨rfl, rfl⟩
        go_wp2_with fail
        go_ret2
        rw [HQ.out]
        exact ⟨x, rfl, hx, rfl⟩
    · have HQ := Lib.hid (HD.out F free n HR.out (by omega))
      obtain rfl : n = l.length := by omega
      go_wp2_with fail
      go_ret2
      rw [HQ.out]
      exact ⟨x, rfl, hx, rfl⟩

theorem snoc_len {zs pre : List Nat} {y p : Nat} (h : zs.length = pre.length ∧ ∀ z ∈ zs, z < 4294967296) (hy : y < 4294967296) : (zs ++ [y]).length = (pre ++ [p]).length ∧ ∀ z ∈ zs ++ [y], z < 4294967296 := by
  refine ⟨?_, fun z hz => ?_⟩
  · rw [List.length_append, List.length_append, h.1]; rfl
  · rcases List.mem_append.1 hz with hz | hz
    · exact h.2 z hz
    · rw [List.mem_singleton.1 hz]; exact hy
/-- A new list of so many numbers. -/
def NewLen (w : World) (n : Nat) (e : Ending) (w' : World) : Prop := ∃ (v : Value) (zs : List Nat), e = .returned v ∧ zs.length = n ∧ (∀ z ∈ zs, z < 4294967296) ∧ w'.ownsRow w.heap.size 24 1 v zs.length (zs.map u32v) ∧ Below w.heap.size w w'
theorem NewLen.of_new {w : World} {xs : List Nat} (hx : ∀ z ∈ xs, z < 4294967296) {e : Ending} {w' : World} (h : NewN w xs e w') : NewLen w xs.length e w' := by
  obtain ⟨v, e1, e2, e3⟩ := h
  exact ⟨v, xs, e1, rfl, hx, e2, e3⟩

set_option maxHeartbeats 2000000 in
theorem impl_packany (s : ByteArray) (hs : s.size ≤ 4611686018427387904) (w : World) (hcs : TabsAny w) : Calls Try.prog 64 #[.string s] w (NewLen w (packs s.data.toList).length) := by
  obtain ⟨i0, hi, hz0, hz1, hz2⟩ := info_parts infoU32
  have HN := Lib.hid (impl_nameok s hs w)
  rw [nameOk_list] at HN
  cases hn : nameL s.data.toList with
  | false =>
    rw [hn] at HN
    rw [packs_no hn]
    clear hn hcs
    go_enter Try.func64, Try.ntmps64
    go_wp2_with fail
    refine HN.out.mono ?_
    rintro e w' ⟨rfl, rfl⟩
    go_wp2_with fail
    go_ret
    exact ⟨_, [], rfl, rfl, fun z hz => absurd hz List.not_mem_nil, World.ownsRow_nil _ _ _ _, Below.refl _ _⟩
  | true =>
    rw [hn] at HN
    rw [packs_yes hn]
    have hconv := run_bytes_of_string (P := Try.prog) w 9 22 5 s Try.underlying9 Try.underlying22 Try.underlying5
    have hr := rdb_bytes w 5 s hs ((bytesRow s (grownCap w s.size 0 5)).size, (bytesRow s (grownCap w s.size 0 5)).size + 1)
    have hb1 : Below w.heap.size w (w.drew.alloc (.cells (bytesRow s (grownCap w s.size 0 5)) 5 ((bytesRow s (grownCap w s.size 0 5)).size, (bytesRow s (grownCap w s.size 0 5)).size + 1))) := (below_drewN (Below.refl _ _) 1).alloc (Nat.le_refl _) _
    have hsz : (w.drew.alloc (.cells (bytesRow s (grownCap w s.size 0 5)) 5 ((bytesRow s (grownCap w s.size 0 5)).size, (bytesRow s (grownCap w s.size 0 5)).size + 1))).heap.size = w.heap.size + 1 := by simp
    obtain ⟨W1, hW1⟩ : ∃ W1, w.drew.alloc (.cells (bytesRow s (grownCap w s.size 0 5)) 5 ((bytesRow s (grownCap w s.size 0 5)).size, (bytesRow s (grownCap w s.size 0 5)).size + 1)) = W1 := ⟨_, rfl⟩
    rw [hW1] at hconv hr hb1 hsz
    obtain ⟨cap, hcap⟩ : ∃ cap, grownCap w s.size 0 5 = cap := ⟨_, rfl⟩
    rw [hcap] at hconv hr
    obtain ⟨l, hl⟩ : ∃ l, s.data.toList = l := ⟨_, rfl⟩
    have h24 : l.length ≤ 24 := by rw [← hl]; exact (of_decide_eq_true hn).2.1
    have hls : s.size = l.length := by rw [← hl]; rfl
    rw [hl] at hr ⊢
    rw [hls] at hconv
    have HL0 : Hid (LeftAt w.heap.size W1 (.slice (some ⟨w.heap.size, 0, none⟩) l.length cap) l) := Lib.hid ⟨_, _, _, rfl, fun a h => by obtain rfl := Option.some.inj h; rfl, by rw [← hls]; exact hr, rfl⟩
    have HCS := Lib.hid (hcs.below hb1)
    have HB := Lib.hid hb1
    clear hn hl hcs hr hb1 hW1 hcap
    go_enter Try.func64, Try.ntmps64
    go_wp2_with fail
    refine HN.out.mono ?_
    rintro e w' ⟨rfl, rfl⟩
    go_wp2_with fail
    go_loopw [3, 4] (fun vo vl wr => ∃ (pre : List Nat) (zs : List Nat) (r : List UInt8), Hid (PackAt l pre r) ∧ Hid (zs.length = pre.length ∧ ∀ z ∈ zs, z < 4294967296) ∧ Hid (LeftAt w.heap.size wr vl r) ∧ wr.ownsRow W1.heap.size 24 1 vo zs.length (zs.map u32v) ∧ Below W1.heap.size W1 wr) (fun _ vl _ => match vl with | .slice _ n _ => n | _ => 0)
    case atStart => exact ⟨[], [], l, Lib.hid (PackAt.start l), Lib.hid ⟨rfl, fun z hz => absurd hz List.not_mem_nil⟩, HL0, World.ownsRow_nil _ _ _ _, Below.refl _ _⟩
    case round =>
      obtain ⟨pre, zs, r, HA, HZ, HL, hown, hB⟩ := hrel
      obtain ⟨A, n, cap2, rfl, hA, hR, rfl⟩ := HL.out
      have hlen : zs.length + r.length ≤ 24 := by have := HA.out.len; have := HZ.out.1; omega
      by_cases hp : r = []
      · have HQ := Lib.hid (HA.out.done hp)
        have hp0 : r.length = 0 := by rw [hp]; rfl
        have HO := Lib.hid (show wr.ownsRow w.heap.size 24 1 _ zs.length (zs.map u32v) ∧ Below w.heap.size w wr from ⟨own_base hown (by omega), HB.out.trans (hB.mono (by omega))⟩)
        clear hp hown hB hR hA HL
        go_wp2_with fail
        go_ret
        rw [HQ.out]
        exact ⟨_, zs, rfl, HZ.out.1, HZ.out.2, HO.out.1, HO.out.2⟩
      · have HM := HA.out.more hp
        have hp1 : 0 < r.length := List.length_pos_iff.2 hp
        have hq := fillN_len r 28
        have hq1 := fillN_pos hp
        have HF := impl_fillany _ _ wr hR (HCS.out.below hB)
        have hD := hR.drop (fillN 28 r).2 hq
        obtain ⟨p, q, hpq⟩ : ∃ p q, fillN 28 r = (p, q) := ⟨_, _, rfl⟩
        rw [hpq] at HM hq hq1 HF hD
        have HF := Lib.hid HF
        have HM := Lib.hid HM
        have HD := Lib.hid hD
        have HAA := Lib.hid hA
        have i1 : (q : Int) ≤ (r.length : Int) := by simp at hq; omega
        have i2 : 1 ≤ q := hq1
        clear hp hpq hR hD hA HL hq hq1
        go_wp2_with fail
        refine HF.out.mono ?_
        rintro e w' ⟨y, rfl, hy, rfl⟩
        have HZ2 : Hid ((zs ++ [y]).length = (pre ++ [p]).length ∧ ∀ z ∈ zs ++ [y], z < 4294967296) := Lib.hid (snoc_len HZ.out hy)
        clear hy
        go_wp2_with (at_builtin; refine wpList_append_own _ rfl _ _ 31 rfl W1.heap.size 24 i0 (.int .u32 0) 1 4 Try.underlying31 hi hz0 hz1 hz2 rfl (by decide) _ _ _ rfl (hown.alloc _) ⟨wr.heap.size, 0, none⟩ 1 1 [.int .u32 (y : Int)] rfl rfl (cell_one_new _ _ _) (by simp [Value.oneCell']) (by unfold maxLen; omega) (by omega) (by have := hB.size; simp; omega) ?_; intro v' w1 hown' hgrow _)
        go_roundw
        case rel => exact ⟨pre ++ [p], zs ++ [y], r.drop q, HM, HZ2, Lib.hid ⟨_, _, _, rfl, fun a h => by
            split at h
            · exact HAA.out a h
            · obtain ⟨a', ha', rfl⟩ := Option.map_eq_some_iff.1 h
              rw [addr_addb]; exact HAA.out a' ha', (HD.out.below ((Below.refl _ _).alloc (Nat.le_refl _) _)).grown hgrow (fun A n c k e1 e2 => by
                have h1 := own_lt hown k e2
                injection e1 with e1 _ _
                have h3 : A.block = w.heap.size := by
                  split at e1
                  · exact HAA.out A e1
                  · obtain ⟨a', ha', rfl⟩ := Option.map_eq_some_iff.1 e1
                    rw [addr_addb]; exact HAA.out a' ha'
                omega), by rw [List.length_drop]⟩, by simpa [u32v] using hown', (hB.alloc (by have := hB.size; omega) _).grown hgrow (by have := hB.size; simp; omega) (own_lt hown)⟩
        case measure => show r.length - q < r.length; omega
end Go.Proofs.Ytllhcdkbgknjdaa
