/-
  Pack of the program answers a new list: the fields of a name.
  The cells of the shapes, exactly, by whatever tags the table holds.
  The cells of a variable and of a word, exactly, by whatever tags the table holds.
  CellsOf of the program, exactly, at items that have cells, by whatever tags the table holds.
  An array of numbers by value: read whole out of a variable, indexed.
  Decode, of the program and of its model, tells which letter's code stands first in a text of bits.
  Lists of bytes of the call's own; a text of them.
  UnpackOne, of the program and of its model, tells the letters in a field.
-/
import Derived.Test.YtllhcdkbgknjdaaDoorOP3
import Derived.Test.YtllhcdkbgknjdaaDoorOP2
import Derived.Test.YtllhcdkbgknjdaaDoorOP1
import Derived.Laws.Rows
import Derived.Laws.PanicsMore
import Derived.Laws.BytesArg
namespace Go.Proofs.YtllhcdkbgknjdaaDoor
open Go.RowKit Go

set_option maxHeartbeats 2000000 in
theorem impl_pack (s : ByteArray) (hs : s.size ≤ 4611686018427387904) (w : World) (hcs : Codes w) : Calls Tryd.prog 98 #[.string s] w (NewN w (packs s.data.toList)) := by
  obtain ⟨i0, hi, hz0, hz1, hz2⟩ := info_parts infoU32
  have HN := Lib.hid (impl_nameok s hs w)
  rw [nameOk_list] at HN
  cases hn : nameL s.data.toList with
  | false =>
    rw [hn] at HN
    rw [packs_no hn]
    clear hn hcs
    go_enter Tryd.func98, Tryd.ntmps98
    go_wp2_with fail
    refine HN.out.mono ?_
    rintro e w' ⟨rfl, rfl⟩
    go_wp2_with fail
    go_ret
    exact ⟨_, rfl, World.ownsRow_nil _ _ _ _, Below.refl _ _⟩
  | true =>
    rw [hn] at HN
    rw [packs_yes hn]
    have hconv := run_bytes_of_string (P := Tryd.prog) w 9 22 5 s Tryd.underlying9 Tryd.underlying22 Tryd.underlying5
    have hr := rdb_bytes w 5 s hs ((bytesRow s (grownCap w s.size 0 5)).size, (bytesRow s (grownCap w s.size 0 5)).size + 1)
    have hb1 : Below w.heap.size w (w.drew.alloc (.cells (bytesRow s (grownCap w s.size 0 5)) 5 ((bytesRow s (grownCap w s.size 0 5)).size, (bytesRow s (grownCap w s.size 0 5)).size + 1))) := (below_drewN (Below.refl _ _) 1).alloc (Nat.le_refl _) _
    have hsz : (w.drew.alloc (.cells (bytesRow s (grownCap w s.size 0 5)) 5 ((bytesRow s (grownCap w s.size 0 5)).size, (bytesRow s (grownCap w s.size 0 5)).size + 1))).heap.size = w.heap.size + 1 := by simp
    obtain ⟨W1, hW1⟩ : ∃ W1, w.drew.alloc (.cells (bytesRow s (grownCap w s.size 0 5)) 5 ((bytesRow s (grownCap w s.size 0 5)).size, (bytesRow s (grownCap w s.size 0 5)).size + 1)) = W1 := ⟨_, rfl⟩
    rw [hW1] at hconv hr hb1 hsz
    obtain ⟨cap, hcap⟩ : ∃ cap, grownCap w s.size 0 5 = cap := ⟨_, rfl⟩
    rw [hcap] at hconv hr
    obtain ⟨l, hl⟩ : ∃ l, s.data.toList = l := ⟨_, rfl⟩
    have h24 : l.length ≤ 24 := by rw [← hl]; exact (of_decide_eq_true hn).2.1
    have hls : s.size = l.length := by rw [← hl]; rfl
    rw [hl] at hr ⊢
    rw [hls] at hconv
    have HL0 : Hid (LeftAt w.heap.size W1 (.slice (some ⟨w.heap.size, 0, none⟩) l.length cap) l) := Lib.hid ⟨_, _, _, rfl, fun a h => by obtain rfl := Option.some.inj h; rfl, by rw [← hls]; exact hr, rfl⟩
    have HCS := Lib.hid (hcs.below hb1)
    have HB := Lib.hid hb1
    clear hn hl hcs hr hb1 hW1 hcap
    go_enter Tryd.func98, Tryd.ntmps98
    go_wp2_with fail
    refine HN.out.mono ?_
    rintro e w' ⟨rfl, rfl⟩
    go_wp2_with fail
    go_loopw [3, 4] (fun vo vl wr => ∃ (pre : List Nat) (r : List UInt8), Hid (PackAt l pre r) ∧ Hid (LeftAt w.heap.size wr vl r) ∧ wr.ownsRow W1.heap.size 51 1 vo pre.length (pre.map u32v) ∧ Below W1.heap.size W1 wr) (fun _ vl _ => match vl with | .slice _ n _ => n | _ => 0)
    case atStart => exact ⟨[], l, Lib.hid (PackAt.start l), HL0, World.ownsRow_nil _ _ _ _, Below.refl _ _⟩
    case round =>
      obtain ⟨pre, r, HA, HL, hown, hB⟩ := hrel
      obtain ⟨A, n, cap2, rfl, hA, hR, rfl⟩ := HL.out
      have hlen : pre.length + r.length ≤ 24 := Nat.le_trans HA.out.len h24
      by_cases hp : r = []
      · have HQ := Lib.hid (HA.out.done hp)
        have hp0 : r.length = 0 := by rw [hp]; rfl
        have HO := Lib.hid (show wr.ownsRow w.heap.size 51 1 _ pre.length (pre.map u32v) ∧ Below w.heap.size w wr from ⟨own_base hown (by omega), HB.out.trans (hB.mono (by omega))⟩)
        clear hp hown hB hR hA HL
        go_wp2_with fail
        go_ret
        rw [HQ.out]
        exact ⟨_, rfl, HO.out.1, HO.out.2⟩
      · have HM := HA.out.more hp
        have hp1 : 0 < r.length := List.length_pos_iff.2 hp
        have hq := fillN_len r 28
        have hq1 := fillN_pos hp
        have HF := impl_fill _ _ wr hR (HCS.out.below hB)
        have hD := hR.drop (fillN 28 r).2 hq
        obtain ⟨p, q, hpq⟩ : ∃ p q, fillN 28 r = (p, q) := ⟨_, _, rfl⟩
        rw [hpq] at HM hq hq1 HF hD
        have HF := Lib.hid HF
        have HM := Lib.hid HM
        have HD := Lib.hid hD
        have HAA := Lib.hid hA
        have i1 : (q : Int) ≤ (r.length : Int) := by simp at hq; omega
        have i2 : 1 ≤ q := hq1
        clear hp hpq hR hD hA HL hq hq1
        go_wp2_with fail
        refine HF.out.mono ?_
        rintro e w' ⟨rfl, rfl⟩
        go_wp2_with (at_builtin; refine wpList_append_own _ rfl _ _ 24 rfl W1.heap.size 51 i0 (.int .u32 0) 1 4 Tryd.underlying24 hi hz0 hz1 hz2 rfl (by decide) _ _ _ rfl (hown.alloc _) ⟨wr.heap.size, 0, none⟩ 1 1 [.int .u32 (p : Int)] rfl rfl (cell_one_new _ _ _) (by simp [Value.oneCell']) (by unfold maxLen; omega) (by omega) (by have := hB.size; simp; omega) ?_; intro v' w1 hown' hgrow _)
        go_roundw
        case rel => exact ⟨pre ++ [p], r.drop q, HM, Lib.hid ⟨_, _, _, rfl, fun a h => by
            split at h
            · exact HAA.out a h
            · obtain ⟨a', ha', rfl⟩ := Option.map_eq_some_iff.1 h
              rw [addr_addb]; exact HAA.out a' ha', (HD.out.below ((Below.refl _ _).alloc (Nat.le_refl _) _)).grown hgrow (fun A n c k e1 e2 => by
                have h1 := own_lt hown k e2
                injection e1 with e1 _ _
                have h3 : A.block = w.heap.size := by
                  split at e1
                  · exact HAA.out A e1
                  · obtain ⟨a', ha', rfl⟩ := Option.map_eq_some_iff.1 e1
                    rw [addr_addb]; exact HAA.out a' ha'
                omega), by rw [List.length_drop]⟩, by simpa [u32v] using hown', (hB.alloc (by have := hB.size; omega) _).grown hgrow (by have := hB.size; simp; omega) (own_lt hown)⟩
        case measure => show r.length - q < r.length; omega
end Go.Proofs.YtllhcdkbgknjdaaDoor

namespace Go.Proofs.YtllhcdkbgknjdaaDoor
open Go.RowKit Go

theorem tag_exact (tg : Nat → Nat) (k : Int) (h0 : 0 ≤ k) (h1 : k ≤ 9) (w : World) (hc : TabsT tg w) : Calls Tryd.prog 123 #[.agg #[.int .i64 k]] w fun e w' => e = .returned (.int .u32 (tg k.toNat : Int)) ∧ Below w.heap.size w w' := by
  obtain ⟨n, rfl⟩ : ∃ n : Nat, k = n := ⟨k.toNat, by omega⟩
  have hcell := hc.tag n (by omega)
  have hn : n < 10 := by omega
  have hlt := lt_of_cell_tab hcell
  have hcell2 := ((Below.refl w.heap.size w).alloc (Nat.le_refl _) (.cells #[.int .i64 (n : Int)] 104)).cell hlt |>.trans hcell
  rw [show ((n : Int)).toNat = n from rfl]
  clear hc h0 h1
  go_enter Tryd.func123, Tryd.ntmps123
  go_wp2_with fail
  go_ret
  exact ⟨rfl, (Below.refl _ _).alloc (Nat.le_refl _) _⟩

theorem orU_int (x y : Nat) : bits .or .u32 (x : Int) (y : Int) = ((orU x y : Nat) : Int) := by
  obtain ⟨n, hn, -⟩ := or_nat (x : Int) (y : Int)
  unfold orU
  rw [hn]
  rfl
theorem orU_lt (x y : Nat) : orU x y < 4294967296 := by
  obtain ⟨n, hn, hl⟩ := or_nat (x : Int) (y : Int)
  unfold orU
  rw [hn]
  exact hl
theorem newN_cells {w w2 : World} {g : Nat} {zs : List Nat} (hg : g = w2.heap.size) (hl : zs.length ≤ 2) (hB : Below w.heap.size w w2) :
    NewN w zs (.returned (.slice (some ⟨g, 0, none⟩) zs.length zs.length)) (w2.alloc (.cells (zs.map u32v).toArray 51)) := by
  subst hg
  exact ⟨_, rfl, ⟨by simp, .inr ⟨w2.heap.size, zs.length, _, rfl, hB.size, heap_alloc_new _ _, Nat.le_refl _, by unfold maxLen; omega, by simp, by simp; exact List.take_of_length_le (by simp)⟩⟩, hB.alloc hB.size _⟩
theorem newN_one {w w2 : World} {g : Nat} {y : Int} {m : Nat} (hg : g = w2.heap.size) (hy : y = (m : Int)) (hB : Below w.heap.size w w2) :
    NewN w [m] (.returned (.slice (some ⟨g, 0, none⟩) 1 1)) (w2.alloc (.cells #[.int .u32 y] 51)) := by
  subst hy
  exact newN_cells (zs := [m]) hg (Nat.le_succ 1) hB
theorem newN_two {w w2 : World} {g : Nat} {y z : Int} {m n : Nat} (hg : g = w2.heap.size) (hy : y = (m : Int)) (hz : z = (n : Int)) (hB : Below w.heap.size w w2) :
    NewN w [m, n] (.returned (.slice (some ⟨g, 0, none⟩) 2 2)) (w2.alloc (.cells #[.int .u32 y, .int .u32 z] 51)) := by
  subst hy hz
  exact newN_cells (zs := [m, n]) hg (Nat.le_refl 2) hB
theorem lowN_int (n : Int) : n % 4294967296 = ((lowN n : Nat) : Int) := by unfold lowN; omega
theorem lowN_wrap (n : Int) : IntKind.u32.wrap n = ((lowN n : Nat) : Int) := by rw [IntKind.wrap_u32]; exact lowN_int n

theorem narrow_val (n : Int) (f t : Nat) : bits .or .u32 (bits .or .u32 (IntKind.u32.wrap (IntKind.u32.wrap n * 32)) (f : Int)) (t : Int) = ((orU (orU (lowN n * 32 % 4294967296) f) t : Nat) : Int) := by
  have h : IntKind.u32.wrap (IntKind.u32.wrap n * 32) = ((lowN n * 32 % 4294967296 : Nat) : Int) := by rw [IntKind.wrap_u32, IntKind.wrap_u32]; unfold lowN; omega
  rw [h, orU_int, orU_int]
set_option maxHeartbeats 1000000 in
theorem raw_exact (k : Int) (r : Nat) (w : World) : Calls Tryd.prog 132 #[.agg #[.int .i64 k, .int .u32 r]] w (NewN w [r]) := by
  go_enter Tryd.func132, Tryd.ntmps132
  go_wp2_with fail
  go_ret
  exact newN_one (by simp) rfl ((Below.refl _ _).alloc (Nat.le_refl _) _)
set_option maxHeartbeats 1000000 in
theorem widetag_exact (k n : Int) (hx : Bool) (w : World) : Calls Tryd.prog 129 #[.agg #[.int .i64 k, .int .i32 n, .bool hx]] w fun e w' => e = .returned (.int .u32 (longOf k : Int)) ∧ Below w.heap.size w w' := by
  by_cases h : k = 7
  · have h7 : (k == 7) = true := by simpa using h
    have e : longOf k = 2 := by unfold longOf; rw [if_pos h]
    rw [e]
    clear h e
    go_enter Tryd.func129, Tryd.ntmps129
    go_wp2_with fail
    go_ret
    exact ⟨rfl, (Below.refl _ _).alloc (Nat.le_refl _) _⟩
  · have h7 : (k == 7) = false := by simpa using h
    have e : longOf k = 5 := by unfold longOf; rw [if_neg h]
    rw [e]
    clear h e
    go_enter Tryd.func129, Tryd.ntmps129
    go_wp2_with fail
    go_ret
    exact ⟨rfl, (Below.refl _ _).alloc (Nat.le_refl _) _⟩
theorem numT_narrow {n : Int} {h : Bool} {t l : Nat} (h1 : -67108864 ≤ n) (h2 : n ≤ 67108863) : numT n h t l = [orU (orU (lowN n * 32 % 4294967296) (hexN h)) t] := by
  unfold numT
  rw [if_neg (by rw [show wideN n = false from decide_eq_false (by omega)]; decide)]
theorem numT_wide {n : Int} {h : Bool} {t l : Nat} (h1 : n < -67108864 ∨ 67108863 < n) : numT n h t l = [orU (hexN h) l, lowN n] := by
  unfold numT
  rw [if_pos (show wideN n = true from decide_eq_true h1)]

set_option maxHeartbeats 2000000 in
theorem narrow_exact (tg : Nat → Nat) (k n : Int) (hx : Bool) (h0 : 0 ≤ k) (h1 : k ≤ 9) (hn1 : -67108864 ≤ n) (hn2 : n ≤ 67108863) (w : World) (hcs : TabsT tg w) : Calls Tryd.prog 127 #[.agg #[.int .i64 k, .int .i32 n, .bool hx]] w (NewN w [orU (orU (lowN n * 32 % 4294967296) (hexN hx)) (tg k.toNat)]) := by
  have HT : Hid (∀ W, Below w.heap.size w W → Calls Tryd.prog 123 #[.agg #[.int .i64 k]] W fun e w' => e = .returned (.int .u32 (tg k.toNat : Int)) ∧ Below W.heap.size W w') := Lib.hid fun W hb => tag_exact tg k h0 h1 W (hcs.below hb)
  obtain ⟨t, ht⟩ : ∃ t, tg k.toNat = t := ⟨_, rfl⟩
  rw [ht] at HT ⊢
  clear hcs h0 h1 ht
  cases hx with
  | true =>
    go_enter Tryd.func127, Tryd.ntmps127
    go_wp2_with fail
    have hbx : Below (w.heap.size + 1) (w.alloc (.cells #[.int .i64 k, .int .i32 n, .bool true] 110)) (w.alloc (.cells #[.int .i64 k, .int .i32 n, .bool true] 110)).drew := (Below.refl _ _).drew
    have HBX := Lib.hid hbx
    clear hbx
    go_region_held3 (fun w' => w'.cell? ⟨w.heap.size, 0, none⟩ = some (.int .i64 k) ∧ w'.cell? ⟨w.heap.size, 1, none⟩ = some (.int .i32 n) ∧ w'.cell? ⟨w.heap.size, 2, none⟩ = some (.bool true)) (first | exact num3 (num_box HBX.out) | go_keep | exact num3 (num_keep HBX.out hb2)) (first | (go_at_call 123; refine (HT.out _ (num_box HBX.out).2.2.2).mono ?_; rintro e w2 ⟨rfl, hb2⟩))
    go_wp2
    go_ret
    exact newN_one rfl (narrow_val n (hexN true) t) (num_keep HBX.out hb2).2.2.2
  | false =>
    go_enter Tryd.func127, Tryd.ntmps127
    go_wp2_with fail
    have hbx : Below (w.heap.size + 1) (w.alloc (.cells #[.int .i64 k, .int .i32 n, .bool false] 110)) (w.alloc (.cells #[.int .i64 k, .int .i32 n, .bool false] 110)).drew := (Below.refl _ _).drew
    have HBX := Lib.hid hbx
    clear hbx
    go_region_held3 (fun w' => w'.cell? ⟨w.heap.size, 0, none⟩ = some (.int .i64 k) ∧ w'.cell? ⟨w.heap.size, 1, none⟩ = some (.int .i32 n) ∧ w'.cell? ⟨w.heap.size, 2, none⟩ = some (.bool false)) (first | exact num3 (num_box HBX.out) | go_keep | exact num3 (num_keep HBX.out hb2)) (first | (go_at_call 123; refine (HT.out _ (num_box HBX.out).2.2.2).mono ?_; rintro e w2 ⟨rfl, hb2⟩))
    go_wp2
    go_ret
    exact newN_one rfl (narrow_val n (hexN false) t) (num_keep HBX.out hb2).2.2.2

set_option maxHeartbeats 2000000 in
theorem wide_exact (k n : Int) (hx : Bool) (hn : n < -67108864 ∨ 67108863 < n) (w : World) : Calls Tryd.prog 127 #[.agg #[.int .i64 k, .int .i32 n, .bool hx]] w (NewN w [orU (hexN hx) (longOf k), lowN n]) := by
  have HT : Hid (∀ W, Calls Tryd.prog 129 #[.agg #[.int .i64 k, .int .i32 n, .bool hx]] W fun e w' => e = .returned (.int .u32 (longOf k : Int)) ∧ Below W.heap.size W w') := Lib.hid fun W => widetag_exact k n hx W
  obtain ⟨t, ht⟩ : ∃ t, longOf k = t := ⟨_, rfl⟩
  rw [ht] at HT ⊢
  clear ht
  rcases hn with hn | hn
  · cases hx with
    | true =>
      go_enter Tryd.func127, Tryd.ntmps127
      go_wp2_with fail
      have hbx : Below (w.heap.size + 1) (w.alloc (.cells #[.int .i64 k, .int .i32 n, .bool true] 110)) (w.alloc (.cells #[.int .i64 k, .int .i32 n, .bool true] 110)).drew := (Below.refl _ _).drew
      have HBX := Lib.hid hbx
      clear hbx
      go_region_held3 (fun w' => w'.cell? ⟨w.heap.size, 0, none⟩ = some (.int .i64 k) ∧ w'.cell? ⟨w.heap.size, 1, none⟩ = some (.int .i32 n) ∧ w'.cell? ⟨w.heap.size, 2, none⟩ = some (.bool true)) (first | exact num3 (num_box HBX.out) | go_keep | exact num3 (num_keep HBX.out hb2)) (first | (go_at_call 129; refine (HT.out _).mono ?_; rintro e w2 ⟨rfl, hb2⟩))
      go_wp2
      go_ret
      exact newN_two rfl (by rw [← orU_int]; rfl) (lowN_wrap n) (num_keep HBX.out hb2).2.2.2
    | false =>
      go_enter Tryd.func127, Tryd.ntmps127
      go_wp2_with fail
      have hbx : Below (w.heap.size + 1) (w.alloc (.cells #[.int .i64 k, .int .i32 n, .bool false] 110)) (w.alloc (.cells #[.int .i64 k, .int .i32 n, .bool false] 110)).drew := (Below.refl _ _).drew
      have HBX := Lib.hid hbx
      clear hbx
      go_region_held3 (fun w' => w'.cell? ⟨w.heap.size, 0, none⟩ = some (.int .i64 k) ∧ w'.cell? ⟨w.heap.size, 1, none⟩ = some (.int .i32 n) ∧ w'.cell? ⟨w.heap.size, 2, none⟩ = some (.bool false)) (first | exact num3 (num_box HBX.out) | go_keep | exact num3 (num_keep HBX.out hb2)) (first | (go_at_call 129; refine (HT.out _).mono ?_; rintro e w2 ⟨rfl, hb2⟩))
      go_wp2
      go_ret
      exact newN_two rfl (by rw [← orU_int]; rfl) (lowN_wrap n) (num_keep HBX.out hb2).2.2.2
  · have hn2 : -67108864 ≤ n := by omega
    cases hx with
    | true =>
      go_enter Tryd.func127, Tryd.ntmps127
      go_wp2_with fail
      have hbx : Below (w.heap.size + 1) (w.alloc (.cells #[.int .i64 k, .int .i32 n, .bool true] 110)) (w.alloc (.cells #[.int .i64 k, .int .i32 n, .bool true] 110)).drew := (Below.refl _ _).drew
      have HBX := Lib.hid hbx
      clear hbx
      go_region_held3 (fun w' => w'.cell? ⟨w.heap.size, 0, none⟩ = some (.int .i64 k) ∧ w'.cell? ⟨w.heap.size, 1, none⟩ = some (.int .i32 n) ∧ w'.cell? ⟨w.heap.size, 2, none⟩ = some (.bool true)) (first | exact num3 (num_box HBX.out) | go_keep | exact num3 (num_keep HBX.out hb2)) (first | (go_at_call 129; refine (HT.out _).mono ?_; rintro e w2 ⟨rfl, hb2⟩))
      go_wp2
      go_ret
      exact newN_two rfl (by rw [← orU_int]; rfl) (lowN_wrap n) (num_keep HBX.out hb2).2.2.2
    | false =>
      go_enter Tryd.func127, Tryd.ntmps127
      go_wp2_with fail
      have hbx : Below (w.heap.size + 1) (w.alloc (.cells #[.int .i64 k, .int .i32 n, .bool false] 110)) (w.alloc (.cells #[.int .i64 k, .int .i32 n, .bool false] 110)).drew := (Below.refl _ _).drew
      have HBX := Lib.hid hbx
      clear hbx
      go_region_held3 (fun w' => w'.cell? ⟨w.heap.size, 0, none⟩ = some (.int .i64 k) ∧ w'.cell? ⟨w.heap.size, 1, none⟩ = some (.int .i32 n) ∧ w'.cell? ⟨w.heap.size, 2, none⟩ = some (.bool false)) (first | exact num3 (num_box HBX.out) | go_keep | exact num3 (num_keep HBX.out hb2)) (first | (go_at_call 129; refine (HT.out _).mono ?_; rintro e w2 ⟨rfl, hb2⟩))
      go_wp2
      go_ret
      exact newN_two rfl (by rw [← orU_int]; rfl) (lowN_wrap n) (num_keep HBX.out hb2).2.2.2
end Go.Proofs.YtllhcdkbgknjdaaDoor

namespace Go.Proofs.YtllhcdkbgknjdaaDoor
open Go.RowKit Go

theorem varT_none (t : Nat) {l : List Nat} (n : Int) (h : l.length ≠ 1) : varT t l n = [] := by
  match l, h with
  | [], _ => rfl
  | [_], h => exact absurd rfl h
  | _ :: _ :: _, _ => rfl
theorem own_one_exact {w : World} {base : Nat} {v : Value} {f : Nat} (h : w.ownsRow base 51 1 v [f].length ([f].map u32v)) : ∃ (g cap : Nat), v = .slice (some ⟨g, 0, none⟩) 1 cap ∧ w.cell? ⟨g, 0, none⟩ = some (.int .u32 (f : Int)) ∧ g < w.heap.size := by
  rcases h.2 with ⟨_, h0⟩ | ⟨g, cap, cur, rfl, hb, hg, hn, hm, hsz, ht⟩
  · simp at h0
  · refine ⟨g, cap, rfl, ?_, (Array.getElem?_eq_some_iff.1 hg).1⟩
    rw [cell_of_row w g 0 cur 51 (0, 0) hg]
    have h2 := congrArg (·[0]?) ht
    simpa [List.getElem?_take, u32v] using h2

set_option maxHeartbeats 2000000 in
theorem variable_exact (tg : Nat → Nat) (n : Int) (nm : ByteArray) (hs : nm.size ≤ 4611686018427387904) (w : World) (hcs : TabsT tg w) :
    Calls Tryd.prog 130 #[.agg #[.int .i64 9, .string nm, .int .i32 n]] w (NewN w (varT (tg 9) (packs nm.data.toList) n)) := by
  have HT : Hid (∀ W, Below w.heap.size w W → Calls Tryd.prog 123 #[.agg #[.int .i64 9]] W fun e w' => e = .returned (.int .u32 (tg 9 : Int)) ∧ Below W.heap.size W w') := Lib.hid fun W hb => tag_exact tg 9 (by decide) (by decide) W (hcs.below hb)
  have HP : Hid (∀ W, Below w.heap.size w W → Calls Tryd.prog 98 #[.string nm] W (NewN W (packs nm.data.toList))) := Lib.hid fun W hb => impl_pack nm hs W (hcs.below hb).codes
  have hsm := packs_small nm.data.toList
  obtain ⟨t, ht⟩ : ∃ t, tg 9 = t := ⟨_, rfl⟩
  obtain ⟨F, hF⟩ : ∃ F, packs nm.data.toList = F := ⟨_, rfl⟩
  rw [ht] at HT ⊢
  rw [hF] at HP hsm ⊢
  clear hcs ht hF hs
  by_cases h1 : F.length = 1
  · match F, h1 with
    | [f], _ =>
    have hf : f < 268435456 := by have := hsm f (by simp); omega
    have HF : Hid (((f : Int) * 16) % 4294967296 = ((f * 16 : Nat) : Int)) := Lib.hid (by omega)
    have HE : Hid (varT t [f] n = [orU (f * 16) t, lowN n]) := Lib.hid rfl
    clear hsm hf
    rw [HE.out]
    go_enter Tryd.func130, Tryd.ntmps130
    go_wp2_with fail
    refine (HP.out _ ((Below.refl _ _).alloc (Nat.le_refl _) _)).mono ?_
    rintro e w1 ⟨v, rfl, hown, hb1⟩
    have hb1' : Below (w.heap.size + 1) (w.alloc (.cells #[.int .i64 9, .string nm, .int .i32 n] 112)) w1 := hb1.mono (by simp)
    have hs1 := hb1.size
    obtain ⟨g, cap, rfl, hcell, hg⟩ := own_one_exact hown
    have HBX := Lib.hid hb1'
    have hz1 : w.heap.size + 1 ≤ w1.heap.size := by simp at hs1; omega
    obtain ⟨c0, c1, c2, hB⟩ := var_box hb1'
    have HB := Lib.hid hB
    have HG := Lib.hid hg
    have HCG := Lib.hid hcell
    have HZ := Lib.hid hz1
    clear hown hb1 hb1' hB hs1 hg HP hz1
    go_wp2_with fail
    go_region_held3 (fun w' => w'.cell? ⟨w.heap.size, 0, none⟩ = some (.int .i64 9) ∧ w'.cell? ⟨w.heap.size, 2, none⟩ = some (.int .i32 n) ∧ w'.cell? ⟨g, 0, none⟩ = some (.int .u32 (f : Int))) (first | exact ⟨c0, c2, hcell⟩ | go_keep | exact var_keep HBX.out HZ.out HG.out HCG.out hb2) (first | (go_at_call 123; refine (HT.out _ HB.out.drew).mono ?_; rintro e w2 ⟨rfl, hb2⟩))
    go_wp2
    go_ret
    exact newN_two rfl (by rw [← orU_int, ← HF.out]; rfl) (lowN_wrap n) (HB.out.drew.trans (hb2.mono HB.out.size))
  · rw [varT_none t n h1]
    obtain ⟨m, hm⟩ : ∃ m, F.length = m := ⟨_, rfl⟩
    rw [hm] at h1
    go_enter Tryd.func130, Tryd.ntmps130
    go_wp2_with fail
    refine (HP.out _ ((Below.refl _ _).alloc (Nat.le_refl _) _)).mono ?_
    rintro e w1 ⟨v, rfl, hown, hb1⟩
    obtain ⟨A, cap, rfl⟩ := own_slice hown
    have hne : ((F.length : Int) != 1) = true := by rw [hm]; simp; omega
    have HB := Lib.hid ((((Below.refl w.heap.size w).alloc (Nat.le_refl _) _)).trans (hb1.mono (by simp)))
    clear hown hb1 h1 HP hm hsm
    go_wp2_with fail
    go_ret
    exact ⟨_, rfl, World.ownsRow_nil _ _ _ _, HB.out⟩

theorem wordT_len (t : Nat) (l : List Nat) : (wordT t l).length = l.length := by cases l <;> simp [wordT]
theorem wordT_get (t : Nat) {l : List Nat} {i : Nat} (h : i < l.length) : (wordT t l)[i]? = some (orU (l[i] * 16) (if i = 0 then t else 0)) := by
  cases l with
  | nil => simp at h
  | cons f r =>
    cases i with
    | zero => simp [wordT]
    | succ i => have h2 : i < r.length := by simpa using h
                simp [wordT, h2]
/-- The first i cells are laid. -/
def halfT (t : Nat) (l : List Nat) (i : Nat) : List Nat := (wordT t l).take i ++ l.drop i
theorem halfT_len (t : Nat) {l : List Nat} {i : Nat} (h : i ≤ l.length) : (halfT t l i).length = l.length := by unfold halfT; rw [List.length_append, List.length_take, wordT_len, List.length_drop]; omega
theorem halfT_get (t : Nat) {l : List Nat} {i : Nat} (h : i < l.length) : (halfT t l i)[i]? = some l[i] := by
  unfold halfT
  rw [List.getElem?_append_right (by rw [List.length_take, wordT_len]; omega), List.length_take, wordT_len, List.getElem?_drop]
  rw [show i + (i - min i l.length) = i by omega]
  simp [h]
theorem halfT_set (t : Nat) {l : List Nat} {i : Nat} (h : i < l.length) : (halfT t l i).set i (orU (l[i] * 16) (if i = 0 then t else 0)) = halfT t l (i + 1) := by
  unfold halfT
  have h1 := wordT_get t h
  have hlt : i < (wordT t l).length := by rw [wordT_len]; exact h
  rw [List.set_append_right _ _ (by rw [List.length_take]; omega), List.length_take, Nat.min_eq_left (by omega), Nat.sub_self, List.drop_eq_getElem_cons h, List.set_cons_zero, List.take_succ_eq_append_getElem hlt]
  rw [List.getElem?_eq_getElem hlt] at h1
  rw [Option.some.inj h1, List.append_assoc]
  rfl
theorem halfT_all (t : Nat) (l : List Nat) : halfT t l l.length = wordT t l := by unfold halfT; rw [List.drop_length, List.append_nil, List.take_of_length_le (by rw [wordT_len]; exact Nat.le_refl _)]
theorem halfT_zero (t : Nat) (l : List Nat) : halfT t l 0 = l := by simp [halfT]
theorem map_setN (zs : List Nat) (i x : Nat) : (zs.map u32v).set i (u32v x) = (zs.set i x).map u32v := List.map_set.symm

set_option maxHeartbeats 2000000 in
theorem word_exact (tg : Nat → Nat) (k : Int) (nm : ByteArray) (h0 : 0 ≤ k) (h1 : k ≤ 9) (hs : nm.size ≤ 4611686018427387904) (w : World) (hcs : TabsT tg w) :
    Calls Tryd.prog 124 #[.agg #[.int .i64 k, .string nm]] w (NewN w (wordT (tg k.toNat) (packs nm.data.toList))) := by
  have HT : Hid (∀ W, Below w.heap.size w W → Calls Tryd.prog 123 #[.agg #[.int .i64 k]] W fun e w' => e = .returned (.int .u32 (tg k.toNat : Int)) ∧ Below W.heap.size W w') := Lib.hid fun W hb => tag_exact tg k h0 h1 W (hcs.below hb)
  have HP : Hid (∀ W, Below w.heap.size w W → Calls Tryd.prog 98 #[.string nm] W (NewN W (packs nm.data.toList))) := Lib.hid fun W hb => impl_pack nm hs W (hcs.below hb).codes
  have hm24 := (packs_len nm.data.toList).2
  have HSM := Lib.hid (packs_small nm.data.toList)
  obtain ⟨t, ht⟩ : ∃ t, tg k.toNat = t := ⟨_, rfl⟩
  obtain ⟨F, hF⟩ : ∃ F, packs nm.data.toList = F := ⟨_, rfl⟩
  rw [ht] at HT ⊢
  rw [hF] at HP HSM hm24 ⊢
  clear hcs h0 h1 hs ht hF
  go_enter Tryd.func124, Tryd.ntmps124
  go_wp2_with fail
  refine (HT.out _ ((Below.refl _ _).alloc (Nat.le_refl _) _)).mono ?_
  rintro e w1 ⟨rfl, hb1⟩
  have k1 := (Blk.new w 108 #[.int .i64 k, .string nm]).below hb1 (by simp)
  have c1 : w1.cell? ⟨w.heap.size, 1, none⟩ = some (.string nm) := k1.cell 1
  have HB1 := Lib.hid (((Below.refl w.heap.size w).alloc (Nat.le_refl _) _).trans (hb1.mono (by simp)))
  clear hb1 k1 HT
  go_wp2_with fail
  refine (HP.out _ HB1.out).mono ?_
  rintro e w2 ⟨v, rfl, hown, hb2⟩
  have HB2 := Lib.hid (HB1.out.trans (hb2.mono HB1.out.size))
  have HO := Lib.hid (own_base hown HB1.out.size)
  rcases hown.2 with ⟨rfl, h0⟩ | ⟨g, cap, cur, rfl, -⟩
  · obtain rfl : F = [] := List.eq_nil_of_length_eq_zero h0
    clear hb2 hown HP c1 h0
    go_wp2_with fail
    go_loopw [3, 15] (fun vt vi wr => vt = .int .u32 (t : Int) ∧ vi = .int .i64 0 ∧ wr = w2) (fun _ _ _ => 0)
    case atStart => exact ⟨rfl, rfl, rfl⟩
    case round =>
      obtain ⟨rfl, rfl, rfl⟩ := hrel
      go_wp2_with fail
      go_ret
      exact ⟨_, rfl, World.ownsRow_nil _ _ _ _, HB2.out⟩
  · clear hb2 hown HP c1
    go_wp2_with fail
    go_loopw [3, 15] (fun vt vi wr => ∃ (i : Nat), vt = .int .u32 ((if i = 0 then t else 0 : Nat) : Int) ∧ vi = .int .i64 i ∧ i ≤ F.length ∧ wr.ownsRow w.heap.size 51 1 (.slice (some ⟨g, 0, none⟩) F.length cap) F.length ((halfT t F i).map u32v) ∧ Below w.heap.size w wr) (fun _ vi _ => F.length - (intOf vi).toNat)
    case atStart => exact ⟨0, rfl, rfl, by omega, by rw [halfT_zero]; exact HO.out, HB2.out⟩
    case round =>
      obtain ⟨i, rfl, rfl, hi, hO, hB⟩ := hrel
      by_cases hp : i < F.length
      · have hd : wr.cell? ⟨g, i, none⟩ = some (u32v F[i]) := by
          rw [hO.cellAt i (by omega), List.getElem?_map, halfT_get t hp]
          rfl
        have HFI := HSM.out _ (List.getElem_mem hp)
        have hset := halfT_set t hp
        obtain ⟨z, hzz⟩ : ∃ z, F[i] = z := ⟨_, rfl⟩
        rw [hzz] at hd HFI hset
        change wr.cell? ⟨g, i, none⟩ = some (.int .u32 (z : Int)) at hd
        obtain ⟨x, hx⟩ : ∃ x : Nat, (if i = 0 then t else 0 : Nat) = x := ⟨_, rfl⟩
        rw [hx] at hset ⊢
        have hmod : ((z : Int) * 16) % 4294967296 = ((z * 16 : Nat) : Int) := by omega
        have hy : bits .or .u32 ((z : Int) * 16 % 4294967296) (x : Int) = ((orU (z * 16) x : Nat) : Int) := by rw [hmod]; exact orU_int _ _
        obtain ⟨y, hyy⟩ : ∃ y, orU (z * 16) x = y := ⟨_, rfl⟩
        rw [hyy] at hy hset
        have hs := hO.stored i (.int .u32 (y : Int))
        have HS := Lib.hid hs
        have HSET := Lib.hid hset
        clear hs hset hyy hx HFI hmod
        have hf := hO.frozenAt i
        have i2 : (i : Int) < (F.length : Int) := by omega
        have HGB := Lib.hid (own_lt hO g rfl)
        have HB := Lib.hid hB
        clear hO hB hzz HO HB2 HB1
        go_wp2_with fail
        go_roundw
        case rel => exact ⟨i + 1, by first | rfl | simp, by go_num, by omega, by
            have := HS.out.1
            rw [show (Value.int IntKind.u32 (y : Int)) = u32v y from rfl, map_setN, HSET.out] at this
            exact this, HB.out.grown HS.out.2 HB.out.size (fun k hk => by obtain rfl := Option.some.inj hk; exact HGB.out)⟩
        case measure => simp [intOf]; omega
      · obtain rfl : i = F.length := by omega
        obtain ⟨x, hx⟩ : ∃ x : Nat, (if F.length = 0 then t else 0 : Nat) = x := ⟨_, rfl⟩
        rw [hx]
        clear hx
        go_wp2_with fail
        go_ret
        rw [halfT_all] at hO
        exact ⟨_, rfl, by rw [wordT_len]; exact hO, hB⟩
end Go.Proofs.YtllhcdkbgknjdaaDoor

namespace Go.Proofs.YtllhcdkbgknjdaaDoor
open Go.RowKit Go

set_option maxHeartbeats 2000000 in
theorem cellsT_word (tg : Nat → Nat) (k : Int) (nm : ByteArray) (h : wordK k = true) (hs : nm.size ≤ 4611686018427387904) (w : World) (hcs : TabsT tg w) :
    Calls Tryd.prog 55 #[itA k nm 0 false 0] w (NewN w (wordT (tg k.toNat) (packs nm.data.toList))) := by
  have HS := Lib.hid (fun W => shape_word ⟨k, nm, 0, false, 0⟩ h W)
  have HC := Lib.hid (fun W (hb : Below w.heap.size w W) => word_exact tg k nm (by have := of_decide_eq_true h; omega) (by have := of_decide_eq_true h; omega) hs W (hcs.below hb))
  obtain ⟨cs, hcs2⟩ : ∃ cs : List Nat, wordT (tg k.toNat) (packs nm.data.toList) = cs := ⟨_, rfl⟩
  rw [hcs2] at HC ⊢
  clear h hcs hcs2
  go_enter Tryd.func55, Tryd.ntmps55
  go_wp2_with fail
  refine (HS.out _).mono ?_
  rintro e w1 ⟨rfl, hb⟩
  have hb' : Below (w.heap.size + 1) (w.alloc (.cells #[.int .i64 k, .string nm, .int .i32 0, .bool false, .int .u32 0] 57)) w1 := hb.mono (by simp)
  have HBX := Lib.hid hb'
  have HB := Lib.hid (((Below.refl w.heap.size w).alloc (Nat.le_refl _) _).trans (hb.mono (by simp)))
  clear hb hb' HS
  go_wp2_with fail
  go_region_held3 (fun w' => w'.cell? ⟨w.heap.size, 0, none⟩ = some (.int .i64 k) ∧ w'.cell? ⟨w.heap.size, 1, none⟩ = some (.string nm) ∧ w'.cell? ⟨w.heap.size, 2, none⟩ = some (.int .i32 0) ∧ w'.cell? ⟨w.heap.size, 3, none⟩ = some (.bool false) ∧ w'.cell? ⟨w.heap.size, 4, none⟩ = some (.int .u32 0)) (first | exact it_box HBX.out.drew | go_keep | exact it_keep HBX.out hb2) (first | (go_at_call 125; refine (word_item k nm _).mono ?_; rintro e w2 ⟨rfl, hb2⟩))
  have HB2 := Lib.hid (HB.out.drew.trans (hb2.mono HB.out.size))
  clear hb2
  go_wp2_with fail
  refine (HC.out _ HB2.out).mono ?_
  rintro e w3 ⟨v, rfl, hown, hb3⟩
  have HE := Lib.hid (show NewN w cs (.returned v) w3 from ⟨v, rfl, own_base hown HB2.out.size, HB2.out.trans (hb3.mono HB2.out.size)⟩)
  clear hown hb3
  go_wp2_with fail
  go_ret
  exact HE.out

set_option maxHeartbeats 2000000 in
theorem cellsT_narrow (tg : Nat → Nat) (k n : Int) (x : Bool) (h : numK k = true) (hn1 : -67108864 ≤ n) (hn2 : n ≤ 67108863) (w : World) (hcs : TabsT tg w) :
    Calls Tryd.prog 55 #[itA k ⟨#[]⟩ n x 0] w (NewN w ([orU (orU (lowN n * 32 % 4294967296) (hexN x)) (tg k.toNat)])) := by
  have HS := Lib.hid (fun W => shape_num ⟨k, ⟨#[]⟩, n, x, 0⟩ h W)
  have HC := Lib.hid (fun W (hb : Below w.heap.size w W) => narrow_exact tg k n x (by have := of_decide_eq_true h; omega) (by have := of_decide_eq_true h; omega) hn1 hn2 W (hcs.below hb))
  obtain ⟨cs, hcs2⟩ : ∃ cs : List Nat, [orU (orU (lowN n * 32 % 4294967296) (hexN x)) (tg k.toNat)] = cs := ⟨_, rfl⟩
  rw [hcs2] at HC ⊢
  clear h hcs hcs2
  go_enter Tryd.func55, Tryd.ntmps55
  go_wp2_with fail
  refine (HS.out _).mono ?_
  rintro e w1 ⟨rfl, hb⟩
  have hb' : Below (w.heap.size + 1) (w.alloc (.cells #[.int .i64 k, .string ⟨#[]⟩, .int .i32 n, .bool x, .int .u32 0] 57)) w1 := hb.mono (by simp)
  have HBX := Lib.hid hb'
  have HB := Lib.hid (((Below.refl w.heap.size w).alloc (Nat.le_refl _) _).trans (hb.mono (by simp)))
  clear hb hb' HS
  go_wp2_with fail
  go_region_held3 (fun w' => w'.cell? ⟨w.heap.size, 0, none⟩ = some (.int .i64 k) ∧ w'.cell? ⟨w.heap.size, 1, none⟩ = some (.string ⟨#[]⟩) ∧ w'.cell? ⟨w.heap.size, 2, none⟩ = some (.int .i32 n) ∧ w'.cell? ⟨w.heap.size, 3, none⟩ = some (.bool x) ∧ w'.cell? ⟨w.heap.size, 4, none⟩ = some (.int .u32 0)) (first | exact it_box HBX.out.drew | go_keep | exact it_keep HBX.out hb2) (first | (go_at_call 128; refine (number_item k n x _).mono ?_; rintro e w2 ⟨rfl, hb2⟩))
  have HB2 := Lib.hid (HB.out.drew.trans (hb2.mono HB.out.size))
  clear hb2
  go_wp2_with fail
  refine (HC.out _ HB2.out).mono ?_
  rintro e w3 ⟨v, rfl, hown, hb3⟩
  have HE := Lib.hid (show NewN w cs (.returned v) w3 from ⟨v, rfl, own_base hown HB2.out.size, HB2.out.trans (hb3.mono HB2.out.size)⟩)
  clear hown hb3
  go_wp2_with fail
  go_ret
  exact HE.out

set_option maxHeartbeats 2000000 in
theorem cellsT_wide (tg : Nat → Nat) (k n : Int) (x : Bool) (h : numK k = true) (hn : n < -67108864 ∨ 67108863 < n) (w : World) (hcs : TabsT tg w) :
    Calls Tryd.prog 55 #[itA k ⟨#[]⟩ n x 0] w (NewN w ([orU (hexN x) (longOf k), lowN n])) := by
  have HS := Lib.hid (fun W => shape_num ⟨k, ⟨#[]⟩, n, x, 0⟩ h W)
  have HC := Lib.hid (fun W (hb : Below w.heap.size w W) => (fun (_ : TabsT tg W) => wide_exact k n x hn W) (hcs.below hb))
  obtain ⟨cs, hcs2⟩ : ∃ cs : List Nat, [orU (hexN x) (longOf k), lowN n] = cs := ⟨_, rfl⟩
  rw [hcs2] at HC ⊢
  clear h hcs hcs2
  go_enter Tryd.func55, Tryd.ntmps55
  go_wp2_with fail
  refine (HS.out _).mono ?_
  rintro e w1 ⟨rfl, hb⟩
  have hb' : Below (w.heap.size + 1) (w.alloc (.cells #[.int .i64 k, .string ⟨#[]⟩, .int .i32 n, .bool x, .int .u32 0] 57)) w1 := hb.mono (by simp)
  have HBX := Lib.hid hb'
  have HB := Lib.hid (((Below.refl w.heap.size w).alloc (Nat.le_refl _) _).trans (hb.mono (by simp)))
  clear hb hb' HS
  go_wp2_with fail
  go_region_held3 (fun w' => w'.cell? ⟨w.heap.size, 0, none⟩ = some (.int .i64 k) ∧ w'.cell? ⟨w.heap.size, 1, none⟩ = some (.string ⟨#[]⟩) ∧ w'.cell? ⟨w.heap.size, 2, none⟩ = some (.int .i32 n) ∧ w'.cell? ⟨w.heap.size, 3, none⟩ = some (.bool x) ∧ w'.cell? ⟨w.heap.size, 4, none⟩ = some (.int .u32 0)) (first | exact it_box HBX.out.drew | go_keep | exact it_keep HBX.out hb2) (first | (go_at_call 128; refine (number_item k n x _).mono ?_; rintro e w2 ⟨rfl, hb2⟩))
  have HB2 := Lib.hid (HB.out.drew.trans (hb2.mono HB.out.size))
  clear hb2
  go_wp2_with fail
  refine (HC.out _ HB2.out).mono ?_
  rintro e w3 ⟨v, rfl, hown, hb3⟩
  have HE := Lib.hid (show NewN w cs (.returned v) w3 from ⟨v, rfl, own_base hown HB2.out.size, HB2.out.trans (hb3.mono HB2.out.size)⟩)
  clear hown hb3
  go_wp2_with fail
  go_ret
  exact HE.out

set_option maxHeartbeats 2000000 in
theorem cellsT_var (tg : Nat → Nat) (nm : ByteArray) (n : Int) (hs : nm.size ≤ 4611686018427387904) (w : World) (hcs : TabsT tg w) :
    Calls Tryd.prog 55 #[itA 9 nm n false 0] w (NewN w (varT (tg 9) (packs nm.data.toList) n)) := by
  have HS := Lib.hid (fun W => shape_var ⟨9, nm, n, false, 0⟩ rfl W)
  have HC := Lib.hid (fun W (hb : Below w.heap.size w W) => variable_exact tg n nm hs W (hcs.below hb))
  obtain ⟨cs, hcs2⟩ : ∃ cs : List Nat, varT (tg 9) (packs nm.data.toList) n = cs := ⟨_, rfl⟩
  rw [hcs2] at HC ⊢
  clear hcs hcs2
  go_enter Tryd.func55, Tryd.ntmps55
  go_wp2_with fail
  refine (HS.out _).mono ?_
  rintro e w1 ⟨rfl, hb⟩
  have hb' : Below (w.heap.size + 1) (w.alloc (.cells #[.int .i64 9, .string nm, .int .i32 n, .bool false, .int .u32 0] 57)) w1 := hb.mono (by simp)
  have HBX := Lib.hid hb'
  have HB := Lib.hid (((Below.refl w.heap.size w).alloc (Nat.le_refl _) _).trans (hb.mono (by simp)))
  clear hb hb' HS
  go_wp2_with fail
  go_region_held3 (fun w' => w'.cell? ⟨w.heap.size, 0, none⟩ = some (.int .i64 9) ∧ w'.cell? ⟨w.heap.size, 1, none⟩ = some (.string nm) ∧ w'.cell? ⟨w.heap.size, 2, none⟩ = some (.int .i32 n) ∧ w'.cell? ⟨w.heap.size, 3, none⟩ = some (.bool false) ∧ w'.cell? ⟨w.heap.size, 4, none⟩ = some (.int .u32 0)) (first | exact it_box HBX.out.drew | go_keep | exact it_keep HBX.out hb2) (first | (go_at_call 131; refine (variable_item 9 n nm _).mono ?_; rintro e w2 ⟨rfl, hb2⟩))
  have HB2 := Lib.hid (HB.out.drew.trans (hb2.mono HB.out.size))
  clear hb2
  go_wp2_with fail
  refine (HC.out _ HB2.out).mono ?_
  rintro e w3 ⟨v, rfl, hown, hb3⟩
  have HE := Lib.hid (show NewN w cs (.returned v) w3 from ⟨v, rfl, own_base hown HB2.out.size, HB2.out.trans (hb3.mono HB2.out.size)⟩)
  clear hown hb3
  go_wp2_with fail
  go_ret
  exact HE.out

set_option maxHeartbeats 2000000 in
theorem cellsTe_raw (tg : Nat → Nat) (r : Nat) (w : World) (hcs : TabsT tg w) :
    Calls Tryd.prog 55 #[itA 0 ⟨#[]⟩ 0 false (r : Int)] w (NewN w ([r])) := by
  have HS := Lib.hid (fun W => shape_raw ⟨0, ⟨#[]⟩, 0, false, r⟩ (by simp) W)
  have HC := Lib.hid (fun W (hb : Below w.heap.size w W) => (fun (_ : TabsT tg W) => raw_exact 0 r W) (hcs.below hb))
  obtain ⟨cs, hcs2⟩ : ∃ cs : List Nat, [r] = cs := ⟨_, rfl⟩
  rw [hcs2] at HC ⊢
  clear hcs hcs2
  go_enter Tryd.func55, Tryd.ntmps55
  go_wp2_with fail
  refine (HS.out _).mono ?_
  rintro e w1 ⟨rfl, hb⟩
  have hb' : Below (w.heap.size + 1) (w.alloc (.cells #[.int .i64 0, .string ⟨#[]⟩, .int .i32 0, .bool false, .int .u32 (r : Int)] 57)) w1 := hb.mono (by simp)
  have HBX := Lib.hid hb'
  have HB := Lib.hid (((Below.refl w.heap.size w).alloc (Nat.le_refl _) _).trans (hb.mono (by simp)))
  clear hb hb' HS
  go_wp2_with fail
  go_region_held3 (fun w' => w'.cell? ⟨w.heap.size, 0, none⟩ = some (.int .i64 0) ∧ w'.cell? ⟨w.heap.size, 1, none⟩ = some (.string ⟨#[]⟩) ∧ w'.cell? ⟨w.heap.size, 2, none⟩ = some (.int .i32 0) ∧ w'.cell? ⟨w.heap.size, 3, none⟩ = some (.bool false) ∧ w'.cell? ⟨w.heap.size, 4, none⟩ = some (.int .u32 (r : Int))) (first | exact it_box HBX.out.drew | go_keep | exact it_keep HBX.out hb2) (first | (go_at_call 133; refine (raw_item 0 (r : Int) _).mono ?_; rintro e w2 ⟨rfl, hb2⟩))
  have HB2 := Lib.hid (HB.out.drew.trans (hb2.mono HB.out.size))
  clear hb2
  go_wp2_with fail
  refine (HC.out _ HB2.out).mono ?_
  rintro e w3 ⟨v, rfl, hown, hb3⟩
  have HE := Lib.hid (show NewN w cs (.returned v) w3 from ⟨v, rfl, own_base hown HB2.out.size, HB2.out.trans (hb3.mono HB2.out.size)⟩)
  clear hown hb3
  go_wp2_with fail
  go_ret
  exact HE.out

/-- An item that has cells is one of these. -/
theorem cellsT_ways {tg : Nat → Nat} {it : It} (h : cellsT tg it ≠ []) :
    (wordK it.kind = true ∧ it.n = 0 ∧ it.hex = false ∧ it.raw = 0 ∧ cellsT tg it = wordT (tg it.kind.toNat) (packs it.name.data.toList)) ∨
    (numK it.kind = true ∧ it.name = noText ∧ it.raw = 0 ∧ cellsT tg it = numT it.n it.hex (tg it.kind.toNat) (longOf it.kind)) ∨
    (it.kind = 9 ∧ it.hex = false ∧ it.raw = 0 ∧ cellsT tg it = varT (tg 9) (packs it.name.data.toList) it.n) ∨
    (it = rawIt it.raw ∧ cellsT tg it = [it.raw]) := by
  unfold cellsT at h ⊢
  by_cases h1 : wordK it.kind = true
  · rw [if_pos h1] at h ⊢
    by_cases h2 : it.n = 0 ∧ it.hex = false ∧ it.raw = 0
    · rw [if_pos h2]; exact .inl ⟨h1, h2.1, h2.2.1, h2.2.2, rfl⟩
    · rw [if_neg h2] at h; exact absurd rfl h
  · rw [if_neg h1] at h ⊢
    by_cases h2 : numK it.kind = true
    · rw [if_pos h2] at h ⊢
      by_cases h3 : it.name = noText ∧ it.raw = 0
      · rw [if_pos h3]; exact .inr (.inl ⟨h2, h3.1, h3.2, rfl⟩)
      · rw [if_neg h3] at h; exact absurd rfl h
    · rw [if_neg h2] at h ⊢
      by_cases h3 : it.kind = 9
      · rw [if_pos h3] at h ⊢
        by_cases h4 : it.hex = false ∧ it.raw = 0
        · rw [if_pos h4]; exact .inr (.inr (.inl ⟨h3, h4.1, h4.2, rfl⟩))
        · rw [if_neg h4] at h; exact absurd rfl h
      · rw [if_neg h3] at h ⊢
        by_cases h4 : it.kind = 0 ∧ it.name = noText ∧ it.n = 0 ∧ it.hex = false
        · rw [if_pos h4]
          obtain ⟨k, nm, n, x, r⟩ := it
          obtain ⟨e1, e2, e3, e4⟩ : k = 0 ∧ nm = noText ∧ n = 0 ∧ x = false := h4
          subst e1 e2 e3 e4
          exact .inr (.inr (.inr ⟨rfl, rfl⟩))
        · rw [if_neg h4] at h; exact absurd rfl h
theorem impl_cellsT (tg : Nat → Nat) (it : It) (hin : ItIn it) (h : cellsT tg it ≠ []) (w : World) (hcs : TabsT tg w) : Calls Tryd.prog 55 #[itVal it] w (NewN w (cellsT tg it)) := by
  have hs := hin.s
  rcases cellsT_ways h with ⟨h1, h2, h3, h4, e⟩ | ⟨h1, h2, h3, e⟩ | ⟨h1, h2, h3, e⟩ | ⟨h1, e⟩
  · rw [e]
    obtain ⟨k, nm, n, x, r⟩ := it
    obtain ⟨rfl, rfl, rfl⟩ : n = 0 ∧ x = false ∧ r = 0 := ⟨h2, h3, h4⟩
    exact cellsT_word tg k nm h1 hs w hcs
  · rw [e]
    obtain ⟨k, nm, n, x, r⟩ := it
    obtain ⟨rfl, rfl⟩ : nm = noText ∧ r = 0 := ⟨h2, h3⟩
    by_cases hw : n < -67108864 ∨ 67108863 < n
    · show Calls _ _ _ _ (NewN w (numT n x (tg k.toNat) (longOf k)))
      rw [numT_wide hw]
      exact cellsT_wide tg k n x h1 hw w hcs
    · show Calls _ _ _ _ (NewN w (numT n x (tg k.toNat) (longOf k)))
      rw [numT_narrow (by omega) (by omega)]
      exact cellsT_narrow tg k n x h1 (by omega) (by omega) w hcs
  · rw [e]
    obtain ⟨k, nm, n, x, r⟩ := it
    obtain ⟨rfl, rfl, rfl⟩ : k = 9 ∧ x = false ∧ r = 0 := ⟨h1, h2, h3⟩
    exact cellsT_var tg nm n hs w hcs
  · rw [e]
    obtain ⟨r, hr⟩ : ∃ r, it.raw = r := ⟨_, rfl⟩
    rw [hr] at h1 ⊢
    subst h1
    exact cellsTe_raw tg r w hcs
end Go.Proofs.YtllhcdkbgknjdaaDoor

namespace Go.Proofs.YtllhcdkbgknjdaaDoor
open Go.RowKit Go

theorem run_index_arr {P : Program} (t e : TypeId) (n : Nat) (cs : Array Value) (i : Nat) (v : Value) (kd : IntKind) (w : World) (h : P.underlying t = some (.array n e)) (he : P.underlying e = some (.int kd)) (hs : (P.info? e).map (·.size) = some 1)
    (hi : i < n) (hv : cs[i]? = some v) : (Instr.index t (.agg cs) (.int .i64 (i : Int))).run P w = .ok v w := by
  have h1 : (0 : Int) ≤ (i : Int) ∧ (i : Int) < (n : Int) := by omega
  cases hq : P.info? e with
  | none => simp [hq] at hs
  | some j =>
    have hj : j.size = 1 := by simpa [hq] using hs
    simp [Instr.index, asIntOf, run_underlying h, run_underlying he, part, isAgg, sizeOf, typeInfo, Sem.run_bind, hq, hj, hv, hi]
theorem heap_of_var {P : Program} {w : World} {n : String} {g : Nat} {cs : Array Value} (hg : P.globalNamed n = some g) (h : w.var? P n = some cs) : ∃ t fr, w.heap[g]? = some (.cells cs t fr) := by
  unfold World.var? at h
  rw [hg] at h
  simp only [Option.bind_some] at h
  split at h
  · rename_i c t fr hc
    injection h with h
    subst h
    exact ⟨t, fr, hc⟩
  · cases h
end Go.Proofs.YtllhcdkbgknjdaaDoor

namespace Go.Proofs.YtllhcdkbgknjdaaDoor
open Go.RowKit

def codesArr : Array Value := (codesTab.map fun z => Value.int .u8 z).toArray
theorem codesArr_at (k : Nat) (hk : k < 48) : codesArr[k]? = some (.int .u8 (bitsOf k)) := by
  rw [← tab_bits k hk]
  unfold codesArr
  have h : k < codesTab.length := hk
  simp [List.getD, h]
theorem index_codes (k : Nat) (hk : k < 48) (w : World) : (Instr.index 127 (.agg codesArr) (.int .i64 (k : Int))).run Tryd.prog w = .ok (.int .u8 (bitsOf k)) w :=
  run_index_arr 127 5 48 codesArr k _ .u8 w Tryd.underlying127 Tryd.underlying5 (by kernel_rfl) hk (codesArr_at k hk)
theorem infoCodes : (Tryd.prog.info? 127).map (·.size) = some codesArr.size := by kernel_rfl
theorem loadCodes {w : World} (hc : Codes w) : ∃ t fr, w.heap[1]? = some (.cells codesArr t fr) := heap_of_var gCodes hc.2

set_option maxRecDepth 100000 in
set_option maxHeartbeats 1000000 in
theorem impl_decode (x : Nat) (n : Int) (w : World) (hc : Codes w) : Calls Tryd.prog 92 #[.int .u32 x, .int .i64 n] w fun e w' => e = .returned (.tuple #[.int .i64 (decode x n).1, .int .i64 (decode x n).2]) ∧ w = w' := by
  by_cases h : 1 ≤ n ∧ n ≤ 32
  · obtain ⟨m, rfl⟩ : ∃ m : Nat, n = m := ⟨n.toNat, by omega⟩
    have h1 : 1 ≤ m := by omega
    have h2 : m ≤ 32 := by omega
    obtain ⟨p, q, hpq⟩ : ∃ p q, decode x (m : Int) = (p, q) := ⟨_, _, rfl⟩
    have hN : decodeN x m = (p, q) := by
      unfold decode at hpq
      rw [if_pos h] at hpq
      exact hpq
    have HY : Hid (∀ k : Nat, k < 48 → codeAt x m k = true → (∀ j, j < k → codeAt x m j = false) → p = (k : Int) ∧ q = widthOf k) := Lib.hid fun k a b c => by
      rw [decodeN_some a b c] at hN
      injection hN with e1 e2
      exact ⟨e1.symm, e2.symm⟩
    have HZ : Hid ((∀ j, j < 48 → codeAt x m j = false) → p = -1 ∧ q = 0) := Lib.hid fun c => by
      rw [decodeN_none c] at hN
      injection hN with e1 e2
      exact ⟨e1.symm, e2.symm⟩
    rw [hpq]
    clear hpq hN h
    obtain ⟨t, fr, hh⟩ := loadCodes hc
    have HH := Lib.hid hh
    have HIX : Hid (∀ (k : Nat), k < 48 → ∀ w, (Instr.index 127 (.agg codesArr) (.int .i64 (k : Int))).run Tryd.prog w = .ok (.int .u8 (bitsOf k)) w) := Lib.hid index_codes
    have HIF := Lib.hid infoCodes
    obtain ⟨arr, harr⟩ : ∃ arr, codesArr = arr := ⟨_, rfl⟩
    rw [harr] at HH HIX HIF
    clear hh harr hc
    have n1 : decide ((m : Int) < 1) = false := by simp; omega
    have n2 : decide (32 < (m : Int)) = false := by simp; omega
    go_enter Tryd.func92, Tryd.ntmps92
    go_wp2_with fail
    go_step3
    go_wp2_with (with_reducible refine wpList_load_row rfl _ _ rfl 1 rfl _ _ _ _ HH.out Tryd.underlying127 rfl HIF.out ?_)
    go_loop [21] (fun i => ∃ k : Nat, k ≤ 48 ∧ i = .int .i64 k ∧ Hid (∀ j, j < k → codeAt x m j = false)) (fun i => 48 - (intOf i).toNat)
    case atStart => exact ⟨0, by omega, rfl, Lib.hid fun j h => by omega⟩
    case round =>
      obtain ⟨k, hk, rfl, HK⟩ := hrel
      by_cases hlt : k < 48
      · have hlt' : decide ((k : Int) < 48) = true := by simp; omega
        have hr := bitsOf_range (k : Int)
        obtain ⟨b, hb⟩ : ∃ b, bitsOf (k : Int) = b := ⟨_, rfl⟩
        obtain ⟨d, hd, hd0, hd1⟩ := widthOf_nat hlt
        have hix := HIX.out k hlt w
        rw [hb] at hix
        have HWD := Lib.hid (impl_widthof (k : Int) w)
        rw [hd] at HWD
        rw [hb] at hr
        obtain ⟨hr0, hr1⟩ := hr
        have HD := Lib.hid hd
        have HB := Lib.hid hb
        clear hb hd
        by_cases hw : d ≤ m
        · have HT := Lib.hid (top_int x m d h2 hw)
          by_cases he : (x : Int) * 2 ^ (32 - m) % 4294967296 / 2 ^ (32 - d) = b
          · have hQ := Lib.hid (HY.out k hlt (codeAt_true HD.out HB.out hw HT.out he) HK.out)
            have he' : ((x : Int) * 2 ^ (32 - m) % 4294967296 / 2 ^ (32 - d) == b) = true := by simpa using he
            clear he
            go_wp2_with fail
            refine HWD.out.mono ?_
            rintro e w' ⟨rfl, rfl⟩
            go_wp2_with fail
            obtain ⟨rfl, e2⟩ := hQ.out
            rw [HD.out] at e2
            subst e2
            rw [Exit.noGoto_ret]
            go_ret2
            exact ⟨rfl, rfl⟩
          · have HK2 : Hid (∀ j, j < k + 1 → codeAt x m j = false) := Lib.hid fun j h => by
              rcases Nat.lt_or_ge j k with h2 | h2
              · exact HK.out j h2
              · obtain rfl : j = k := by omega
                exact codeAt_false HD.out HB.out HT.out he
            have he' : ((x : Int) * 2 ^ (32 - m) % 4294967296 / 2 ^ (32 - d) == b) = false := by simpa using he
            clear he
            go_wp2_with fail
            refine HWD.out.mono ?_
            rintro e w' ⟨rfl, rfl⟩
            go_wp2_with fail
            go_round
            case rel => exact ⟨k + 1, by omega, by go_num, HK2⟩
            case measure => simp [intOf]; omega
        · have HK2 : Hid (∀ j, j < k + 1 → codeAt x m j = false) := Lib.hid fun j h => by
            rcases Nat.lt_or_ge j k with h2 | h2
            · exact HK.out j h2
            · obtain rfl : j = k := by omega
              exact codeAt_short HD.out hw
          have hw' : m < d := by omega
          clear hw
          go_wp2_with fail
          refine HWD.out.mono ?_
          rintro e w' ⟨rfl, rfl⟩
          go_wp2_with fail
          go_round
          case rel => exact ⟨k + 1, by omega, by go_num, HK2⟩
          case measure => simp [intOf]; omega
      · have hlt' : decide ((k : Int) < 48) = false := by simp; omega
        have hQ := Lib.hid (HZ.out fun j hj => HK.out j (by omega))
        go_wp2_with fail
        go_step3
        go_wp2_with fail
        obtain ⟨rfl, rfl⟩ := hQ.out
        rw [Exit.noGoto_ret]
        go_ret2
        exact ⟨rfl, rfl⟩
  · have e : decode x n = (-1, 0) := by unfold decode; rw [if_neg h]
    rw [e]
    clear e hc
    go_enter Tryd.func92, Tryd.ntmps92
    go_wp2_with fail
    refine wp_scope_jumps 0 (fun a' w' => w' = w ∧ ∃ u0 u1 u2 u3 u4 u5 u6 u7 u8 u9 u10 u11 u12 u13 u14 u15 u16 u17 u18 u19 u20 u21 u22 u23 u24 u25 u26 u27 u28 u29 u30 u31 u32 u33 u34 u35 u36 u37 u38 u39 u40 u41 : Value, a' = { tmps := #[u0, u1, u2, u3, u4, u5, u6, u7, u8, u9, u10, u11, u12, u13, u14, u15, u16, u17, u18, u19, u20, u21, u22, u23, u24, u25, u26, u27, u28, u29, u30, u31, u32, u33, u34, u35, u36, u37, u38, u39, u40, u41], defers := [] }) (fun _ _ => 0) rfl ?_ ?_
    · by_cases h0 : n < 1
      · have h0' : decide (n < 1) = true := by simpa using h0
        clear h0 h
        go_wp2_with fail
        go_step3
        exact ⟨rfl, rfl, _, _, _, _, _, _, _, _, _, _, _, _, _, _, _, _, _, _, _, _, _, _, _, _, _, _, _, _, _, _, _, _, _, _, _, _, _, _, _, _, _, _, rfl⟩
      · have h0' : decide (n < 1) = false := by simpa using h0
        have h1' : decide (32 < n) = true := by simp; omega
        clear h0 h
        go_wp2_with fail
        go_step3
        exact ⟨rfl, rfl, _, _, _, _, _, _, _, _, _, _, _, _, _, _, _, _, _, _, _, _, _, _, _, _, _, _, _, _, _, _, _, _, _, _, _, _, _, _, _, _, _, _, rfl⟩
    · rintro a' w' ⟨rfl, u0, u1, u2, u3, u4, u5, u6, u7, u8, u9, u10, u11, u12, u13, u14, u15, u16, u17, u18, u19, u20, u21, u22, u23, u24, u25, u26, u27, u28, u29, u30, u31, u32, u33, u34, u35, u36, u37, u38, u39, u40, u41, rfl⟩
      go_wp2_with fail
      simp only [Exit.jump]
      go_ret2
      exact ⟨rfl, rfl⟩

set_option maxRecDepth 100000 in
set_option maxHeartbeats 1000000 in
theorem spec_decode (x : Nat) (hx : x < 4294967296) (n : Int) (w : World) : Calls Tryd.prog 86 #[.int .u32 x, .int .i64 n] w fun e w' => e = .returned (.tuple #[.int .i64 (decode x n).1, .int .i64 (decode x n).2]) ∧ w = w' := by
  by_cases h : 1 ≤ n ∧ n ≤ 32
  · obtain ⟨m, rfl⟩ : ∃ m : Nat, n = m := ⟨n.toNat, by omega⟩
    have h1 : 1 ≤ m := by omega
    have h2 : m ≤ 32 := by omega
    obtain ⟨p, q, hpq⟩ : ∃ p q, decode x (m : Int) = (p, q) := ⟨_, _, rfl⟩
    have hN : decodeN x m = (p, q) := by
      unfold decode at hpq
      rw [if_pos h] at hpq
      exact hpq
    have HY : Hid (∀ k : Nat, k < 48 → codeAt x m k = true → (∀ j, j < k → codeAt x m j = false) → p = (k : Int) ∧ q = widthOf k) := Lib.hid fun k a b c => by
      rw [decodeN_some a b c] at hN
      injection hN with e1 e2
      exact ⟨e1.symm, e2.symm⟩
    have HZ : Hid ((∀ j, j < 48 → codeAt x m j = false) → p = -1 ∧ q = 0) := Lib.hid fun c => by
      rw [decodeN_none c] at hN
      injection hN with e1 e2
      exact ⟨e1.symm, e2.symm⟩
    rw [hpq]
    clear hpq hN h
    have hb0 := Lib.hid (inB_true (x := (m : Int)) (a := 1) (b := 32) (by omega) (by omega))
    have HI := Lib.hid (in_any (m : Int) 1 32 w)
    go_enter Tryd.func86, Tryd.ntmps86
    go_wp2_with fail
    refine HI.out.mono ?_
    rintro e w' ⟨he, rfl⟩
    rw [hb0.out] at he
    subst he
    go_wp2_with fail
    go_loop [6] (fun i => ∃ k : Nat, k ≤ 48 ∧ i = .int .i64 k ∧ Hid (∀ j, j < k → codeAt x m j = false)) (fun i => 48 - (intOf i).toNat)
    case atStart => exact ⟨0, by omega, rfl, Lib.hid fun j h => by omega⟩
    case round =>
      obtain ⟨k, hk, rfl, HK⟩ := hrel
      by_cases hlt : k < 48
      · have hlt' : decide ((k : Int) < 48) = true := by simp; omega
        have hr := bitsOf_range (k : Int)
        obtain ⟨b, hb⟩ : ∃ b, bitsOf (k : Int) = b := ⟨_, rfl⟩
        obtain ⟨d, hd, hd0, hd1⟩ := widthOf_nat hlt
        have HWD := Lib.hid (spec_widthof (k : Int) w)
        rw [hd] at HWD
        have HBC := Lib.hid (spec_bitsof (k : Int) w)
        rw [hb] at HBC
        rw [hb] at hr
        obtain ⟨hr0, hr1⟩ := hr
        have HD := Lib.hid hd
        have HB := Lib.hid hb
        clear hb hd
        by_cases hw : d ≤ m
        · have HT := Lib.hid (mask_int x m d hx h2)
          by_cases he : bits BinOp.and IntKind.i64 (x : Int) (wrap64 (wrap64 ((2 : Int) ^ m) - 1)) / 2 ^ (m - d) = b
          · have hQ := Lib.hid (HY.out k hlt (codeAt_true HD.out HB.out hw HT.out he) HK.out)
            have he' : (bits BinOp.and IntKind.i64 (x : Int) (wrap64 (wrap64 ((2 : Int) ^ m) - 1)) / 2 ^ (m - d) == b) = true := by simpa using he
            clear he
            go_wp2_with fail
            refine HWD.out.mono ?_
            rintro e w' ⟨rfl, rfl⟩
            go_wp2_with fail
            refine HBC.out.mono ?_
            rintro e w' ⟨rfl, rfl⟩
            go_wp2_with fail
            obtain ⟨rfl, e2⟩ := hQ.out
            rw [HD.out] at e2
            subst e2
            go_ret2
            exact ⟨rfl, rfl⟩
          · have HK2 : Hid (∀ j, j < k + 1 → codeAt x m j = false) := Lib.hid fun j h => by
              rcases Nat.lt_or_ge j k with h2 | h2
              · exact HK.out j h2
              · obtain rfl : j = k := by omega
                exact codeAt_false HD.out HB.out HT.out he
            have he' : (bits BinOp.and IntKind.i64 (x : Int) (wrap64 (wrap64 ((2 : Int) ^ m) - 1)) / 2 ^ (m - d) == b) = false := by simpa using he
            clear he
            go_wp2_with fail
            refine HWD.out.mono ?_
            rintro e w' ⟨rfl, rfl⟩
            go_wp2_with fail
            refine HBC.out.mono ?_
            rintro e w' ⟨rfl, rfl⟩
            go_wp2_with fail
            go_round
            case rel => exact ⟨k + 1, by omega, by go_num, HK2⟩
            case measure => simp [intOf]; omega
        · have HK2 : Hid (∀ j, j < k + 1 → codeAt x m j = false) := Lib.hid fun j h => by
            rcases Nat.lt_or_ge j k with h2 | h2
            · exact HK.out j h2
            · obtain rfl : j = k := by omega
              exact codeAt_short HD.out hw
          have hw' : m < d := by omega
          clear hw
          go_wp2_with fail
          refine HWD.out.mono ?_
          rintro e w' ⟨rfl, rfl⟩
          go_wp2_with fail
          go_round
          case rel => exact ⟨k + 1, by omega, by go_num, HK2⟩
          case measure => simp [intOf]; omega
      · have hlt' : decide ((k : Int) < 48) = false := by simp; omega
        have hQ := Lib.hid (HZ.out fun j hj => HK.out j (by omega))
        go_wp2_with fail
        obtain ⟨rfl, rfl⟩ := hQ.out
        go_ret2
        exact ⟨rfl, rfl⟩
  · have e : decode x n = (-1, 0) := by unfold decode; rw [if_neg h]
    rw [e]
    have hb := Lib.hid (inB_false h)
    have HI := Lib.hid (in_any n 1 32 w)
    clear e h
    go_enter Tryd.func86, Tryd.ntmps86
    go_wp2_with fail
    refine HI.out.mono ?_
    rintro e w' ⟨he, rfl⟩
    rw [hb.out] at he
    subst he
    go_wp2_with fail
    go_ret2
    exact ⟨rfl, rfl⟩
end Go.Proofs.YtllhcdkbgknjdaaDoor

namespace Go.Proofs.YtllhcdkbgknjdaaDoor
open Go.RowKit Go

def u8v (c : UInt8) : Value := .int .u8 (c.toNat : Int)
theorem infoU8 : (Tryd.prog.info? 5).map (fun i => (i.zero, i.size, i.bytes)) = some (some (.int .u8 0), 1, 1) := by kernel_rfl
/-- 'string(b)' of bytes of the call's own. -/
theorem own_string {P : Program} {w : World} {base : Nat} {src dst e : TypeId} {v : Value} {l : List UInt8} (hs : P.underlying src = some (.slice e)) (he : P.underlying e = some (.int .u8)) (hd : P.underlying dst = some .string)
    (h : w.ownsRow base e 1 v l.length (l.map u8v)) : (convert src dst v).run P w = .ok (.string ⟨l.toArray⟩) w := by
  rcases h.2 with ⟨rfl, h0⟩ | ⟨g, cap, cur, rfl, hb, hg, hn, hm, hsz, ht⟩
  · have hl : l = [] := List.eq_nil_of_length_eq_zero h0
    subst hl
    exact run_convert_bytes_nil w src e hs he 0 0 dst hd
  · refine run_convert_bytes_back w src dst e _ _ l hs he hd fun j hj => ?_
    rw [addr_lit, Nat.zero_add, cell_of_row w g j cur e (0, 0) hg]
    have h1 := congrArg (·[j]?) ht
    simpa [List.getElem?_take, hj, u8v] using h1
theorem byteAt_int {k : Nat} (h : k < 48) : letAt (k : Int) = ((byteAt (k : Int)).toNat : Int) := by
  obtain ⟨_, h2, h3⟩ := back_all k h
  unfold byteAt
  rw [UInt8.toNat_ofNat_of_lt' (by show _ < 256; omega)]
  omega
end Go.Proofs.YtllhcdkbgknjdaaDoor

namespace Go.Proofs.YtllhcdkbgknjdaaDoor
open Go.RowKit Go

/-- Where unpacking stands: 'pre' is read, n bits are left. -/
structure UnpAt (f : Nat) (pre : List UInt8) (n : Nat) : Prop where
  eq : unpN 28 f 28 = pre ++ unpN (28 - pre.length) f n
  len : pre.length + n ≤ 28
theorem UnpAt.start (f : Nat) : UnpAt f [] 28 := ⟨rfl, by decide⟩
theorem UnpAt.done {f : Nat} {pre : List UInt8} {n : Nat} (h : UnpAt f pre n) (hd : (decode f (n : Int)).1 ≤ 0) : unpN 28 f 28 = pre := by
  rw [h.eq, unpN_stop hd, List.append_nil]
theorem UnpAt.zero {f : Nat} {pre : List UInt8} {n : Nat} (h : UnpAt f pre n) (hd : f % 2 ^ n = 0) : unpN 28 f 28 = pre := h.done (decode_zero _ _ hd)
theorem UnpAt.more {f : Nat} {pre : List UInt8} {n k d : Nat} (h : UnpAt f pre n) (hd : decode f (n : Int) = ((k : Int), (d : Int))) (hk : 0 < k) (hd1 : 1 ≤ d) (hdn : d ≤ n) : UnpAt f (pre ++ [byteAt (k : Int)]) (n - d) := by
  have hl := h.len
  have hne : ¬ (decode f (n : Int)).1 ≤ 0 := by rw [hd]; show ¬ (k : Int) ≤ 0; omega
  obtain ⟨m, hm⟩ : ∃ m, 28 - pre.length = m + 1 := ⟨28 - pre.length - 1, by omega⟩
  refine ⟨?_, by rw [List.length_append, List.length_singleton]; omega⟩
  rw [h.eq, hm, unpN_go hne, hd, List.append_assoc, List.length_append, List.length_singleton, show 28 - (pre.length + 1) = m by omega]
  rfl

set_option maxRecDepth 100000 in
set_option maxHeartbeats 2000000 in
theorem impl_unpackone (f : Nat) (hf : f < 4294967296) (w : World) (hcs : Codes w) :
    Calls Tryd.prog 82 #[.int .u32 f] w fun e w' => e = .returned (.string ⟨(unpOne f).toArray⟩) ∧ Below w.heap.size w w' := by
  obtain ⟨i0, hi, hz0, hz1, hz2⟩ := info_parts infoU8
  by_cases hbig : 268435455 < f
  · have e : unpOne f = [] := by unfold unpOne; rw [if_neg (by omega)]
    rw [e]
    clear e
    go_enter Tryd.func82, Tryd.ntmps82
    go_wp2_with fail
    go_ret
    exact ⟨rfl, Below.refl _ _⟩
  · have hbig' : f ≤ 268435455 := by omega
    have e : unpOne f = unpN 28 f 28 := by unfold unpOne; rw [if_pos (by omega)]
    obtain ⟨u, hu⟩ : ∃ u, unpN 28 f 28 = u := ⟨_, rfl⟩
    have HD : Hid (∀ pre n, UnpAt f pre n → (decode f ((n : Nat) : Int)).1 ≤ 0 → u = pre) := Lib.hid fun pre n h hd => by rw [← hu]; exact h.done hd
    have HCS := Lib.hid hcs
    rw [e, hu]
    clear e hu hcs hbig
    go_enter Tryd.func82, Tryd.ntmps82
    go_wp2_with fail
    go_loopw [3, 4] (fun vo vl wr => ∃ (pre : List UInt8) (n : Nat), vl = .int .i64 n ∧ Hid (UnpAt f pre n) ∧ wr.ownsRow w.heap.size 5 1 vo pre.length (pre.map u8v) ∧ Below w.heap.size w wr) (fun _ vl _ => (intOf vl).toNat)
    case atStart => exact ⟨[], 28, rfl, Lib.hid (UnpAt.start f), World.ownsRow_nil _ _ _ _, Below.refl _ _⟩
    case round =>
      obtain ⟨pre, n, rfl, HA, hown, hB⟩ := hrel
      have hlen := HA.out.len
      have HDC := Lib.hid (impl_decode f (n : Int) wr (HCS.out.below hB))
      by_cases hz : (decode f (n : Int)).1 ≤ 0
      · have HQ := Lib.hid (HD.out pre n HA.out hz)
        obtain ⟨p, q, hpq⟩ : ∃ p q, decode f (n : Int) = (p, q) := ⟨_, _, rfl⟩
        rw [hpq] at HDC hz
        have hz' : p ≤ 0 := hz
        have hstr := own_string (P := Tryd.prog) (src := 22) (dst := 9) Tryd.underlying22 Tryd.underlying5 Tryd.underlying9 hown
        have HB := Lib.hid hB
        clear hpq hz hown hB
        go_wp2_with fail
        refine HDC.out.mono ?_
        rintro e w' ⟨rfl, rfl⟩
        go_wp2_with fail
        go_ret
        exact ⟨by rw [HQ.out]; rfl, HB.out⟩
      · obtain ⟨k, d, hk, hkd, hwd, hd4, hd7, hdn⟩ := decode_some (x := f) (n := n) (by omega)
        have hk0 : 0 < k := by
          rw [hkd] at hz
          have : ¬ ((k : Int) ≤ 0) := hz
          omega
        have HM := Lib.hid (HA.out.more hkd hk0 (by omega) hdn)
        rw [hkd] at HDC
        have HL : Hid (∀ W, Calls Tryd.prog 93 #[.int .i64 (k : Int)] W fun e w' => e = .returned (.int .u8 ((byteAt (k : Int)).toNat : Int)) ∧ W = w') := Lib.hid fun W => by rw [← byteAt_int hk]; exact impl_letterat _ W
        obtain ⟨c, hc⟩ : ∃ c, byteAt (k : Int) = c := ⟨_, rfl⟩
        rw [hc] at HM HL
        clear hz hkd hwd hc
        go_wp2_with fail
        refine HDC.out.mono ?_
        rintro e w' ⟨rfl, rfl⟩
        go_wp2_with fail
        refine (HL.out _).mono ?_
        rintro e w' ⟨rfl, rfl⟩
        go_wp2_with (at_builtin; refine wpList_append_own _ rfl _ _ 22 rfl w.heap.size 5 i0 (.int .u8 0) 1 1 Tryd.underlying22 hi hz0 hz1 hz2 rfl (by decide) _ _ _ rfl (hown.alloc _) ⟨wr.heap.size, 0, none⟩ 1 1 [.int .u8 (c.toNat : Int)] rfl rfl (cell_one_new _ _ _) (by simp [Value.oneCell']) (by unfold maxLen; omega) (by omega) (by have := hB.size; simp; omega) ?_; intro v' w1 hown' hgrow _)
        go_roundw
        case rel => exact ⟨pre ++ [c], n - d, by go_num, HM, by simpa [u8v] using hown', (hB.alloc (by have := hB.size; omega) _).grown hgrow (by have := hB.size; simp; omega) (own_lt hown)⟩
        case measure => simp [intOf]; omega

set_option maxRecDepth 100000 in
set_option maxHeartbeats 2000000 in
theorem spec_unpackone (f : Nat) (hf : f < 4294967296) (w : World) :
    Calls Tryd.prog 77 #[.int .u32 f] w fun e w' => e = .returned (.string ⟨(unpOne f).toArray⟩) ∧ Below w.heap.size w w' := by
  obtain ⟨i0, hi, hz0, hz1, hz2⟩ := info_parts infoU8
  obtain ⟨z, hzf⟩ : ∃ z : Int, (f : Int) = z := ⟨_, rfl⟩
  rw [hzf]
  have hz0' : 0 ≤ z := by omega
  have hzu : z < 4294967296 := by omega
  by_cases hbig : 268435456 ≤ z
  · have e : unpOne f = [] := by unfold unpOne; rw [if_neg (by omega)]
    rw [e]
    clear e hzf hf
    go_enter Tryd.func77, Tryd.ntmps77
    go_wp2_with fail
    go_ret
    exact ⟨rfl, Below.refl _ _⟩
  · have hbig' : z < 268435456 := by omega
    have e : unpOne f = unpN 28 f 28 := by unfold unpOne; rw [if_pos (by omega)]
    obtain ⟨u, hu⟩ : ∃ u, unpN 28 f 28 = u := ⟨_, rfl⟩
    have HD : Hid (∀ pre n, UnpAt f pre n → (decode f ((n : Nat) : Int)).1 ≤ 0 → u = pre) := Lib.hid fun pre n h hd => by rw [← hu]; exact h.done hd
    have HZ : Hid (∀ pre n, UnpAt f pre n → f % 2 ^ n = 0 → u = pre) := Lib.hid fun pre n h hd => by rw [← hu]; exact h.zero hd
    rw [e, hu]
    have HZF := Lib.hid hzf
    have HFU := Lib.hid hf
    clear e hu hbig hzf hf
    go_enter Tryd.func77, Tryd.ntmps77
    go_wp2_with fail
    go_loopw [3, 4] (fun vo vl wr => ∃ (pre : List UInt8) (n : Nat), vl = .int .i64 n ∧ Hid (UnpAt f pre n) ∧ wr.ownsRow w.heap.size 5 1 vo pre.length (pre.map u8v) ∧ Below w.heap.size w wr) (fun _ vl _ => (intOf vl).toNat)
    case atStart => exact ⟨[], 28, rfl, Lib.hid (UnpAt.start f), own_empty _ _, (Below.refl _ _).alloc (Nat.le_refl _) _⟩
    case round =>
      obtain ⟨pre, n, rfl, HA, hown, hB⟩ := hrel
      have hlen := HA.out.len
      have hstr := own_string (P := Tryd.prog) (src := 22) (dst := 9) Tryd.underlying22 Tryd.underlying5 Tryd.underlying9 hown
      have hmask : bits .and .i64 z (wrap64 (wrap64 ((2 : Int) ^ n) - 1)) = ((f % 2 ^ n : Nat) : Int) := by
        rw [← HZF.out, wrap_mask n (by omega), mask_i64 f n (by have := HFU.out; omega) (by omega)]
      by_cases h0 : n = 0
      · subst h0
        have HQ := Lib.hid (HZ.out pre 0 HA.out (Nat.mod_one f))
        have HB := Lib.hid hB
        clear hmask hown hB
        go_wp2_with fail
        go_ret
        exact ⟨by rw [HQ.out]; rfl, HB.out⟩
      · have h0' : 0 < n := by omega
        by_cases hzz : f % 2 ^ n = 0
        · have hm0 : (bits .and .i64 z (wrap64 (wrap64 ((2 : Int) ^ n) - 1)) != 0) = false := by rw [hmask, hzz]; rfl
          have HQ := Lib.hid (HZ.out pre n HA.out hzz)
          have HB := Lib.hid hB
          clear hmask hown hB hzz h0
          go_wp2_with fail
          go_ret
          exact ⟨by rw [HQ.out]; rfl, HB.out⟩
        · have hm0 : (bits .and .i64 z (wrap64 (wrap64 ((2 : Int) ^ n) - 1)) != 0) = true := by
            rw [hmask]
            exact u32_bne (b := 0) hzz
          have HDC := spec_decode f HFU.out (n : Int) wr
          rw [HZF.out] at HDC
          have HDC := Lib.hid HDC
          clear hmask h0 hzz
          by_cases hz : (decode f (n : Int)).1 ≤ 0
          · have HQ := Lib.hid (HD.out pre n HA.out hz)
            obtain ⟨p, q, hpq⟩ : ∃ p q, decode f (n : Int) = (p, q) := ⟨_, _, rfl⟩
            rw [hpq] at HDC hz
            have hz' : p < 1 := by have : p ≤ 0 := hz; omega
            have HB := Lib.hid hB
            clear hpq hz hown hB
            go_wp2_with fail
            refine HDC.out.mono ?_
            rintro e w' ⟨rfl, rfl⟩
            go_wp2_with fail
            go_ret
            exact ⟨by rw [HQ.out]; rfl, HB.out⟩
          · obtain ⟨k, d, hk, hkd, hwd, hd4, hd7, hdn⟩ := decode_some (x := f) (n := n) (by omega)
            have hk0 : 0 < k := by
              rw [hkd] at hz
              have : ¬ ((k : Int) ≤ 0) := hz
              omega
            have HM := Lib.hid (HA.out.more hkd hk0 (by omega) hdn)
            rw [hkd] at HDC
            have HL : Hid (∀ W, Calls Tryd.prog 79 #[.int .i64 (k : Int)] W fun e w' => e = .returned (.int .u8 ((byteAt (k : Int)).toNat : Int)) ∧ W = w') := Lib.hid fun W => by rw [← byteAt_int hk]; exact spec_letterat _ W
            obtain ⟨c, hc⟩ : ∃ c, byteAt (k : Int) = c := ⟨_, rfl⟩
            rw [hc] at HM HL
            have hk1 : (1 : Int) ≤ (k : Int) := by omega
            clear hz hkd hwd hc hstr
            go_wp2_with fail
            refine HDC.out.mono ?_
            rintro e w' ⟨rfl, rfl⟩
            go_wp2_with fail
            refine (HL.out _).mono ?_
            rintro e w' ⟨rfl, rfl⟩
            go_wp2_with (at_builtin; refine wpList_append_own _ rfl _ _ 22 rfl w.heap.size 5 i0 (.int .u8 0) 1 1 Tryd.underlying22 hi hz0 hz1 hz2 rfl (by decide) _ _ _ rfl (hown.alloc _) ⟨wr.heap.size, 0, none⟩ 1 1 [.int .u8 (c.toNat : Int)] rfl rfl (cell_one_new _ _ _) (by simp [Value.oneCell']) (by unfold maxLen; omega) (by omega) (by have := hB.size; simp; omega) ?_; intro v' w1 hown' hgrow _)
            go_roundw
            case rel => exact ⟨pre ++ [c], n - d, by go_num, HM, by simpa [u8v] using hown', (hB.alloc (by have := hB.size; omega) _).grown hgrow (by have := hB.size; simp; omega) (own_lt hown)⟩
            case measure => simp [intOf]; omega
end Go.Proofs.YtllhcdkbgknjdaaDoor
