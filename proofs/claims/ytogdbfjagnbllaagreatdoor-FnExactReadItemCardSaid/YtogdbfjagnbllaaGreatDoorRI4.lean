/-
  The shapes of items: what their methods answer, whatever the tables hold.
  The cells of a number and of a raw cell: how many there are, whatever the tables hold.
  The cells of a variable: how many there are, whatever the tables hold.
  The cells of a word: how many there are, whatever the tables hold.
  The model's cells of a word and of a number: how many there are.
  The model's cells of a number, and the tags of words.
  The model's CellsOf at a raw cell: how many cells there are.
  The model's CellsOf at a number: how many cells there are.
  The model's CellsOf at a number: how many cells there are.
  The model's CellsOf at a word, and at no kind: how many cells there are.
  The item of a word.
  The item of a number.
  The item of a variable.
  The item of a raw cell.
  The cells of a number: how many there are, whatever the tables hold.
-/
import Derived.Test.YtogdbfjagnbllaaGreatDoorRI3
import Derived.RegionTactic
import Derived.ChangeAlike
import Derived.Handy
import Derived.Deep.RegionHeld3
namespace Go.Proofs.YtogdbfjagnbllaaGreatDoor
open Go.RowKit Go

abbrev itA (k : Int) (nm : ByteArray) (n : Int) (hx : Bool) (r : Int) : Value := .agg #[.int .i64 k, .string nm, .int .i32 n, .bool hx, .int .u32 r]

theorem bare_any (k : Int) (w : World) : Calls Tryz.prog 191 #[.agg #[.int .i64 k]] w fun e w' => e = .returned (itA k ⟨#[]⟩ 0 false 0) ∧ Below w.heap.size w w' := by
  go_enter Tryz.func191, Tryz.ntmps191
  go_wp2_with fail
  exact bodyPost_ret (v := itA k ⟨#[]⟩ 0 false 0) (by simp [results, Tryz.results191, go_sem]) rfl ⟨rfl, (((Below.refl _ _).alloc (Nat.le_refl _) _).alloc (by simp) _)⟩
theorem tag_any (k : Int) (h0 : 0 ≤ k) (h1 : k ≤ 9) (w : World) (hc : TabsAny w) : Calls Tryz.prog 188 #[.agg #[.int .i64 k]] w fun e w' => (∃ x : Nat, e = .returned (.int .u32 x) ∧ x < 4294967296) ∧ Below w.heap.size w w' := by
  obtain ⟨n, rfl⟩ : ∃ n : Nat, k = n := ⟨k.toNat, by omega⟩
  obtain ⟨x, hx, hcell⟩ := hc.1 n (by omega)
  have hn : n < 10 := by omega
  have hlt := lt_of_cell_tab hcell
  have hcell2 := ((Below.refl w.heap.size w).alloc (Nat.le_refl _) (.cells #[.int .i64 (n : Int)] 145)).cell hlt |>.trans hcell
  clear hc h0 h1
  go_enter Tryz.func188, Tryz.ntmps188
  go_wp2_with fail
  go_ret
  exact ⟨⟨x, rfl, hx⟩, (Below.refl _ _).alloc (Nat.le_refl _) _⟩

def itC (k : Int) (nm : ByteArray) (n : Int) (hx : Bool) (r : Int) : Array Value := #[.int .i64 k, .string nm, .int .i32 n, .bool hx, .int .u32 r]
theorem itC_cells {w : World} {g : Nat} {t : TypeId} {k : Int} {nm : ByteArray} {n : Int} {hx : Bool} {r : Int} (h : Blk w g t (itC k nm n hx r)) :
    w.cell? ⟨g, 0, none⟩ = some (.int .i64 k) ∧ w.cell? ⟨g, 1, none⟩ = some (.string nm) ∧ w.cell? ⟨g, 2, none⟩ = some (.int .i32 n) ∧ w.cell? ⟨g, 3, none⟩ = some (.bool hx) ∧ w.cell? ⟨g, 4, none⟩ = some (.int .u32 r) ∧
    w.frozen? ⟨g, 0, none⟩ = false ∧ w.frozen? ⟨g, 1, none⟩ = false ∧ w.frozen? ⟨g, 2, none⟩ = false ∧ w.frozen? ⟨g, 3, none⟩ = false ∧ w.frozen? ⟨g, 4, none⟩ = false :=
  ⟨h.cell 0, h.cell 1, h.cell 2, h.cell 3, h.cell 4, h.frozen 0, h.frozen 1, h.frozen 2, h.frozen 3, h.frozen 4⟩

theorem two_boxes {w w1 : World} {cs1 cs2 : Array Value} {t1 t2 : TypeId} (hb : Below ((w.alloc (.cells cs1 t1)).alloc (.cells cs2 t2)).heap.size ((w.alloc (.cells cs1 t1)).alloc (.cells cs2 t2)) w1) :
    Blk w1 w.heap.size t1 cs1 ∧ Blk w1 (w.heap.size + 1) t2 cs2 ∧ Below w.heap.size w w1 ∧ w.heap.size + 2 ≤ w1.heap.size := by
  have e : (w.alloc (.cells cs1 t1)).heap.size = w.heap.size + 1 := by simp
  have h2 := (Blk.new (w.alloc (.cells cs1 t1)) t2 cs2).below hb (by simp)
  rw [e] at h2
  exact ⟨((Blk.new w t1 cs1).alloc (.cells cs2 t2)).below hb (by simp; omega), h2, (((Below.refl _ _).alloc (Nat.le_refl _) _).alloc (by simp) _).trans (hb.mono (by simp; omega)), by have := hb.size; simp at this; omega⟩

/-- An item is stored over another one. -/
theorem item_put {w : World} {g : Nat} {t : TypeId} {k0 : Int} {nm0 : ByteArray} {n0 : Int} {hx0 : Bool} {r0 : Int} (h : Blk w g t (itC k0 nm0 n0 hx0 r0)) (k : Int) (nm : ByteArray) (n : Int) (hx : Bool) (r : Int) :
    Blk (((((w.setCell ⟨g, 0, none⟩ (.int .i64 k)).setCell ⟨g, 1, none⟩ (.string nm)).setCell ⟨g, 2, none⟩ (.int .i32 n)).setCell ⟨g, 3, none⟩ (.bool hx)).setCell ⟨g, 4, none⟩ (.int .u32 r)) g t (itC k nm n hx r) :=
  ((((h.put 0 (.int .i64 k)).put 1 (.string nm)).put 2 (.int .i32 n)).put 3 (.bool hx)).put 4 (.int .u32 r)
theorem item_result {w : World} {g : Nat} {t : TypeId} {k0 : Int} {nm0 : ByteArray} {n0 : Int} {hx0 : Bool} {r0 : Int} (h : Blk w g t (itC k0 nm0 n0 hx0 r0)) (k : Int) (nm : ByteArray) (n : Int) (hx : Bool) (r : Int) (o : Obj) (i : Nat) :
    ((((((w.setCell ⟨g, 0, none⟩ (.int .i64 k)).setCell ⟨g, 1, none⟩ (.string nm)).setCell ⟨g, 2, none⟩ (.int .i32 n)).setCell ⟨g, 3, none⟩ (.bool hx)).setCell ⟨g, 4, none⟩ (.int .u32 r)).alloc o).cell? ⟨g, i, none⟩ = (itC k nm n hx r)[i]? :=
  ((item_put h k nm n hx r).alloc o).cell i
end Go.Proofs.YtogdbfjagnbllaaGreatDoor

namespace Go.Proofs.YtogdbfjagnbllaaGreatDoor
open Go.RowKit Go

theorem new_cells {w w2 : World} {g : Nat} {zs : List Nat} (hg : g = w2.heap.size) (hz : ∀ z ∈ zs, z < 4294967296) (hl : zs.length ≤ 2) (hB : Below w.heap.size w w2) :
    NewLen w zs.length (.returned (.slice (some ⟨g, 0, none⟩) zs.length zs.length)) (w2.alloc (.cells (zs.map u32v).toArray 36)) := by
  subst hg
  exact ⟨_, zs, rfl, rfl, hz, ⟨by simp, .inr ⟨w2.heap.size, zs.length, _, rfl, hB.size, heap_alloc_new _ _, Nat.le_refl _, by unfold maxLen; omega, by simp, by simp; exact List.take_of_length_le (by simp)⟩⟩, hB.alloc hB.size _⟩
theorem new_emp {w w2 : World} {g : Nat} (hg : g = w2.heap.size) (hB : Below w.heap.size w w2) : NewLen w 0 (.returned (.slice (some ⟨g, 0, none⟩) 0 0)) (w2.alloc (.cells #[] 36)) :=
  new_cells (zs := []) hg (fun _ hz => absurd hz List.not_mem_nil) (Nat.zero_le 2) hB
theorem new_one {w w2 : World} {g : Nat} {y : Int} (hg : g = w2.heap.size) (hy : ∃ m : Nat, y = (m : Int) ∧ m < 4294967296) (hB : Below w.heap.size w w2) :
    NewLen w 1 (.returned (.slice (some ⟨g, 0, none⟩) 1 1)) (w2.alloc (.cells #[.int .u32 y] 36)) := by
  obtain ⟨m, rfl, hm⟩ := hy
  exact new_cells (zs := [m]) hg (fun z hz => by rw [List.mem_singleton.1 hz]; exact hm) (Nat.le_succ 1) hB
theorem new_two {w w2 : World} {g : Nat} {y z : Int} (hg : g = w2.heap.size) (hy : ∃ m : Nat, y = (m : Int) ∧ m < 4294967296) (hz : ∃ m : Nat, z = (m : Int) ∧ m < 4294967296) (hB : Below w.heap.size w w2) :
    NewLen w 2 (.returned (.slice (some ⟨g, 0, none⟩) 2 2)) (w2.alloc (.cells #[.int .u32 y, .int .u32 z] 36)) := by
  obtain ⟨m, rfl, hm⟩ := hy
  obtain ⟨n, rfl, hn⟩ := hz
  exact new_cells (zs := [m, n]) hg (fun z hz => by
    rcases List.mem_cons.1 hz with h | h
    · rw [h]; exact hm
    · rw [List.mem_singleton.1 h]; exact hn) (Nat.le_refl 2) hB
theorem u32_some (x : Int) : ∃ n : Nat, IntKind.u32.wrap x = (n : Int) ∧ n < 4294967296 := ⟨(x % 4294967296).toNat, by rw [IntKind.wrap_u32]; omega, by omega⟩
theorem u32_mod (x : Int) : ∃ n : Nat, x % 4294967296 = (n : Int) ∧ n < 4294967296 := ⟨(x % 4294967296).toNat, by omega, by omega⟩

set_option maxHeartbeats 1000000 in
theorem raw_cells (k : Int) (r : Nat) (hr : r < 4294967296) (w : World) : Calls Tryz.prog 197 #[.agg #[.int .i64 k, .int .u32 r]] w (NewLen w 1) := by
  have HR := Lib.hid hr
  clear hr
  go_enter Tryz.func197, Tryz.ntmps197
  go_wp2_with fail
  go_ret
  exact new_one (by simp) ⟨r, rfl, HR.out⟩ ((Below.refl _ _).alloc (Nat.le_refl _) _)
set_option maxHeartbeats 1000000 in
theorem widetag_any (k n : Int) (hx : Bool) (w : World) : Calls Tryz.prog 194 #[.agg #[.int .i64 k, .int .i32 n, .bool hx]] w fun e w' => (∃ x : Nat, e = .returned (.int .u32 x) ∧ x < 4294967296) ∧ Below w.heap.size w w' := by
  by_cases h : k = 7
  · have h7 : (k == 7) = true := by simpa using h
    clear h
    go_enter Tryz.func194, Tryz.ntmps194
    go_wp2_with fail
    go_ret
    exact ⟨⟨2, rfl, by omega⟩, (Below.refl _ _).alloc (Nat.le_refl _) _⟩
  · have h7 : (k == 7) = false := by simpa using h
    clear h
    go_enter Tryz.func194, Tryz.ntmps194
    go_wp2_with fail
    go_ret
    exact ⟨⟨5, rfl, by omega⟩, (Below.refl _ _).alloc (Nat.le_refl _) _⟩
end Go.Proofs.YtogdbfjagnbllaaGreatDoor

namespace Go.Proofs.YtogdbfjagnbllaaGreatDoor
open Go.RowKit Go

theorem var_box {w w' : World} {k n : Int} {nm : ByteArray} {t : TypeId} (hB : Below (w.heap.size + 1) (w.alloc (.cells #[.int .i64 k, .string nm, .int .i32 n] t)) w') :
    w'.cell? ⟨w.heap.size, 0, none⟩ = some (.int .i64 k) ∧ w'.cell? ⟨w.heap.size, 1, none⟩ = some (.string nm) ∧ w'.cell? ⟨w.heap.size, 2, none⟩ = some (.int .i32 n) ∧ Below w.heap.size w w' := by
  have h := (Blk.new w t #[.int .i64 k, .string nm, .int .i32 n]).below hB (by omega)
  exact ⟨h.cell 0, h.cell 1, h.cell 2, ((Below.refl _ _).alloc (Nat.le_refl _) _).trans (hB.mono (by omega))⟩
/-- A list of one number. -/
theorem own_one {w : World} {base : Nat} {v : Value} {zs : List Nat} (h : w.ownsRow base 36 1 v zs.length (zs.map u32v)) (h1 : zs.length = 1) : ∃ (g cap z : Nat), v = .slice (some ⟨g, 0, none⟩) 1 cap ∧ w.cell? ⟨g, 0, none⟩ = some (.int .u32 (z : Int)) ∧ g < w.heap.size := by
  match zs, h1 with
  | [z], _ =>
    rcases h.2 with ⟨_, h0⟩ | ⟨g, cap, cur, rfl, hb, hg, hn, hm, hsz, ht⟩
    · simp at h0
    · refine ⟨g, cap, z, rfl, ?_, (Array.getElem?_eq_some_iff.1 hg).1⟩
      rw [cell_of_row w g 0 cur 36 (0, 0) hg]
      have h2 := congrArg (·[0]?) ht
      simpa [List.getElem?_take, u32v] using h2

theorem own_slice {w : World} {base : Nat} {e : TypeId} {size : Nat} {v : Value} {n : Nat} {xs : List Value} (h : w.ownsRow base e size v n xs) : ∃ A cap, v = .slice A n cap := by
  rcases h.2 with ⟨rfl, rfl⟩ | ⟨g, cap, cur, rfl, _⟩
  · exact ⟨_, _, rfl⟩
  · exact ⟨_, _, rfl⟩
theorem var_keep {w w1 w2 : World} {k n : Int} {nm : ByteArray} {t : TypeId} {g : Nat} {z : Int} (h1 : Below (w.heap.size + 1) (w.alloc (.cells #[.int .i64 k, .string nm, .int .i32 n] t)) w1) (hs : w.heap.size + 1 ≤ w1.heap.size) (hg : g < w1.heap.size)
    (hc : w1.cell? ⟨g, 0, none⟩ = some (.int .u32 z)) (h2 : Below w1.drew.heap.size w1.drew w2) : w2.cell? ⟨w.heap.size, 0, none⟩ = some (.int .i64 k) ∧ w2.cell? ⟨w.heap.size, 2, none⟩ = some (.int .i32 n) ∧ w2.cell? ⟨g, 0, none⟩ = some (.int .u32 z) := by
  obtain ⟨c0, _, c2, _⟩ := var_box (h1.drew.trans (h2.mono hs))
  exact ⟨c0, c2, (h2.cell (p := ⟨g, 0, none⟩) hg).trans hc⟩

set_option maxHeartbeats 2000000 in
theorem variable_cells (k n : Int) (nm : ByteArray) (h0 : 0 ≤ k) (h1 : k ≤ 9) (hs : nm.size ≤ 4611686018427387904) (w : World) (hcs : TabsAny w) :
    Calls Tryz.prog 195 #[.agg #[.int .i64 k, .string nm, .int .i32 n]] w (NewLen w (if (packs nm.data.toList).length = 1 then 2 else 0)) := by
  have HT : Hid (∀ W, Below w.heap.size w W → Calls Tryz.prog 188 #[.agg #[.int .i64 k]] W fun e w' => (∃ x : Nat, e = .returned (.int .u32 x) ∧ x < 4294967296) ∧ Below W.heap.size W w') := Lib.hid fun W hb => tag_any k h0 h1 W (hcs.below hb)
  have HP : Hid (∀ W, Below w.heap.size w W → Calls Tryz.prog 151 #[.string nm] W (NewLen W (packs nm.data.toList).length)) := Lib.hid fun W hb => impl_packany nm hs W (hcs.below hb)
  obtain ⟨m, hm⟩ : ∃ m, (packs nm.data.toList).length = m := ⟨_, rfl⟩
  rw [hm] at HP ⊢
  clear hcs h0 h1 hm hs
  by_cases h1 : m = 1
  · rw [if_pos h1]
    have H1 := Lib.hid h1
    clear h1
    go_enter Tryz.func195, Tryz.ntmps195
    go_wp2_with fail
    refine (HP.out _ ((Below.refl _ _).alloc (Nat.le_refl _) _)).mono ?_
    rintro e w1 ⟨v, zs, rfl, hl, -, hown, hb1⟩
    have hb1' : Below (w.heap.size + 1) (w.alloc (.cells #[.int .i64 k, .string nm, .int .i32 n] 152)) w1 := hb1.mono (by simp)
    have hs1 := hb1.size
    obtain ⟨g, cap, z, rfl, hcell, hg⟩ := own_one hown (hl.trans H1.out)
    have HBX := Lib.hid hb1'
    have hz1 : w.heap.size + 1 ≤ w1.heap.size := by simp at hs1; omega
    obtain ⟨c0, c1, c2, hB⟩ := var_box hb1'
    have HB := Lib.hid hB
    have HG := Lib.hid hg
    have HCG := Lib.hid hcell
    have HZ := Lib.hid hz1
    clear hown hb1 hb1' hl hB hs1 hg HP hz1
    go_wp2_with fail
    go_region_held3 (fun w' => w'.cell? ⟨w.heap.size, 0, none⟩ = some (.int .i64 k) ∧ w'.cell? ⟨w.heap.size, 2, none⟩ = some (.int .i32 n) ∧ w'.cell? ⟨g, 0, none⟩ = some (.int .u32 (z : Int))) (first | exact ⟨c0, c2, hcell⟩ | go_keep | exact var_keep HBX.out HZ.out HG.out HCG.out hb2) (first | (go_at_call 188; refine (HT.out _ HB.out.drew).mono ?_; rintro e w2 ⟨⟨x, rfl, hx⟩, hb2⟩))
    go_wp2
    go_ret
    exact new_two rfl (or_nat _ _) (u32_some _) (HB.out.drew.trans (hb2.mono HB.out.size))
  · rw [if_neg h1]
    go_enter Tryz.func195, Tryz.ntmps195
    go_wp2_with fail
    refine (HP.out _ ((Below.refl _ _).alloc (Nat.le_refl _) _)).mono ?_
    rintro e w1 ⟨v, zs, rfl, hl, -, hown, hb1⟩
    obtain ⟨A, cap, rfl⟩ := own_slice hown
    have hne : ((zs.length : Int) != 1) = true := by simp; omega
    have HB := Lib.hid ((((Below.refl w.heap.size w).alloc (Nat.le_refl _) _)).trans (hb1.mono (by simp)))
    clear hown hb1 hl h1 HP
    go_wp2_with fail
    go_ret
    exact ⟨_, [], rfl, rfl, fun z hz => absurd hz List.not_mem_nil, World.ownsRow_nil _ _ _ _, HB.out⟩
end Go.Proofs.YtogdbfjagnbllaaGreatDoor

namespace Go.Proofs.YtogdbfjagnbllaaGreatDoor
open Go.RowKit Go

theorem map_setU (zs : List Nat) (i x : Nat) : (zs.map u32v).set i (u32v x) = (zs.set i x).map u32v := List.map_set.symm
theorem small_set {zs : List Nat} (h : ∀ z ∈ zs, z < 4294967296) (i : Nat) {x : Nat} (hx : x < 4294967296) : ∀ z ∈ zs.set i x, z < 4294967296 := by
  intro z hz
  rcases List.mem_or_eq_of_mem_set hz with h1 | h1
  · exact h z h1
  · rw [h1]; exact hx

set_option maxHeartbeats 2000000 in
theorem word_cells (k : Int) (nm : ByteArray) (h0 : 0 ≤ k) (h1 : k ≤ 9) (hs : nm.size ≤ 4611686018427387904) (w : World) (hcs : TabsAny w) :
    Calls Tryz.prog 189 #[.agg #[.int .i64 k, .string nm]] w (NewLen w (packs nm.data.toList).length) := by
  have HT : Hid (∀ W, Below w.heap.size w W → Calls Tryz.prog 188 #[.agg #[.int .i64 k]] W fun e w' => (∃ x : Nat, e = .returned (.int .u32 x) ∧ x < 4294967296) ∧ Below W.heap.size W w') := Lib.hid fun W hb => tag_any k h0 h1 W (hcs.below hb)
  have HP : Hid (∀ W, Below w.heap.size w W → Calls Tryz.prog 151 #[.string nm] W (NewLen W (packs nm.data.toList).length)) := Lib.hid fun W hb => impl_packany nm hs W (hcs.below hb)
  have hm24 := (packs_len nm.data.toList).2
  obtain ⟨m, hm⟩ : ∃ m, (packs nm.data.toList).length = m := ⟨_, rfl⟩
  rw [hm] at HP hm24 ⊢
  clear hcs h0 h1 hm hs
  go_enter Tryz.func189, Tryz.ntmps189
  go_wp2_with fail
  refine (HT.out _ ((Below.refl _ _).alloc (Nat.le_refl _) _)).mono ?_
  rintro e w1 ⟨⟨x, rfl, hx⟩, hb1⟩
  have k1 := (Blk.new w 148 #[.int .i64 k, .string nm]).below hb1 (by simp)
  have c1 : w1.cell? ⟨w.heap.size, 1, none⟩ = some (.string nm) := k1.cell 1
  have HB1 := Lib.hid (((Below.refl w.heap.size w).alloc (Nat.le_refl _) _).trans (hb1.mono (by simp)))
  clear hb1 k1 HT
  go_wp2_with fail
  refine (HP.out _ HB1.out).mono ?_
  rintro e w2 ⟨v, zs, rfl, hl, hz, hown, hb2⟩
  have HB2 := Lib.hid (HB1.out.trans (hb2.mono HB1.out.size))
  have HO := Lib.hid (own_base hown HB1.out.size)
  have HZ := Lib.hid hz
  subst hl
  rcases hown.2 with ⟨rfl, h0⟩ | ⟨g, cap, cur, rfl, -⟩
  · obtain rfl : zs = [] := List.eq_nil_of_length_eq_zero h0
    clear hb2 hown hz HP c1 h0
    go_wp2_with fail
    go_loopw [3, 15] (fun vt vi wr => ∃ x : Nat, vt = .int .u32 x ∧ vi = .int .i64 0 ∧ wr = w2) (fun _ _ _ => 0)
    case atStart => exact ⟨x, rfl, rfl, rfl⟩
    case round =>
      obtain ⟨y, rfl, rfl, rfl⟩ := hrel
      go_wp2_with fail
      go_ret
      exact ⟨_, [], rfl, rfl, fun z hz => absurd hz List.not_mem_nil, World.ownsRow_nil _ _ _ _, HB2.out⟩
  · clear hb2 hown hz HP c1
    go_wp2_with fail
    go_loopw [3, 15] (fun vt vi wr => ∃ (x i : Nat) (ys : List Nat), vt = .int .u32 x ∧ vi = .int .i64 i ∧ i ≤ zs.length ∧ Hid (x < 4294967296) ∧ Hid (ys.length = zs.length ∧ ∀ z ∈ ys, z < 4294967296) ∧ wr.ownsRow w.heap.size 36 1 (.slice (some ⟨g, 0, none⟩) zs.length cap) zs.length (ys.map u32v) ∧ Below w.heap.size w wr) (fun _ vi _ => zs.length - (intOf vi).toNat)
    case atStart => exact ⟨x, 0, zs, rfl, rfl, by omega, Lib.hid hx, Lib.hid ⟨rfl, HZ.out⟩, HO.out, HB2.out⟩
    case round =>
      obtain ⟨x, i, ys, rfl, rfl, hi, HX, HY, hO, hB⟩ := hrel
      by_cases hp : i < zs.length
      · have hpy : i < ys.length := by rw [HY.out.1]; exact hp
        have hzi := HY.out.2 _ (List.getElem_mem hpy)
        have hd : wr.cell? ⟨g, i, none⟩ = some (u32v ys[i]) := by
          rw [hO.cellAt i (by omega)]
          simp [hpy]
        obtain ⟨z, hzz⟩ : ∃ z, ys[i] = z := ⟨_, rfl⟩
        rw [hzz] at hd hzi
        change wr.cell? ⟨g, i, none⟩ = some (.int .u32 (z : Int)) at hd
        obtain ⟨y, hy, hyl⟩ := or_nat ((z : Int) * 16 % 4294967296) (x : Int)
        have HYL := Lib.hid hyl
        have hs := hO.stored i (.int .u32 (y : Int))
        have HS := Lib.hid hs
        clear hyl hs
        have hf := hO.frozenAt i
        have i2 : (i : Int) < (zs.length : Int) := by omega
        have HGB := Lib.hid (own_lt hO g rfl)
        have HB := Lib.hid hB
        clear hO hB hzz hpy HO HB2 HB1 HZ
        go_wp2_with fail
        go_roundw
        case rel => exact ⟨0, i + 1, ys.set i y, rfl, by go_num, by omega, Lib.hid (by omega), Lib.hid ⟨by rw [List.length_set]; exact HY.out.1, small_set HY.out.2 i HYL.out⟩, by rw [← map_setU]; exact HS.out.1, HB.out.grown HS.out.2 HB.out.size (fun k hk => by obtain rfl := Option.some.inj hk; exact HGB.out)⟩
        case measure => simp [intOf]; omega
      · obtain rfl : i = zs.length := by omega
        go_wp2_with fail
        go_ret
        exact ⟨_, ys, rfl, HY.out.1, HY.out.2, by rw [HY.out.1]; exact hO, hB⟩
end Go.Proofs.YtogdbfjagnbllaaGreatDoor

namespace Go.Proofs.YtogdbfjagnbllaaGreatDoor
open Go.RowKit Go

theorem spec_pack_len (s : ByteArray) (hs : s.size ≤ 4611686018427387904) (w : World) : Calls Tryz.prog 111 #[.string s] w (NewLen w (packs s.data.toList).length) :=
  (spec_pack s hs w).mono fun _ _ h => NewLen.of_new (fun z hz => Nat.lt_trans (packs_small _ z hz) (by decide)) h

set_option maxHeartbeats 2000000 in
theorem spec_word (t : Nat) (nm : ByteArray) (hs : nm.size ≤ 4611686018427387904) (w : World) :
    Calls Tryz.prog 85 #[.int .u32 t, .string nm] w (NewLen w (packs nm.data.toList).length) := by
  have HP := Lib.hid (spec_pack_len nm hs w)
  have hm24 := (packs_len nm.data.toList).2
  obtain ⟨m, hm⟩ : ∃ m, (packs nm.data.toList).length = m := ⟨_, rfl⟩
  rw [hm] at HP hm24 ⊢
  clear hm hs
  go_enter Tryz.func85, Tryz.ntmps85
  go_wp2_with fail
  refine HP.out.mono ?_
  rintro e w2 ⟨v, zs, rfl, hl, hz, hown, hb2⟩
  have HB2 := Lib.hid hb2
  have HO := Lib.hid hown
  have HZ := Lib.hid hz
  subst hl
  rcases hown.2 with ⟨rfl, h0⟩ | ⟨g, cap, cur, rfl, -⟩
  · obtain rfl : zs = [] := List.eq_nil_of_length_eq_zero h0
    clear hb2 hown hz HP h0
    go_wp2_with fail
    go_loopw [6] (fun vi wr => vi = .int .i64 0 ∧ wr = w2) (fun _ _ => 0)
    case atStart => exact ⟨rfl, rfl⟩
    case round =>
      obtain ⟨rfl, rfl⟩ := hrel
      go_wp2_with fail
      go_ret
      exact ⟨_, [], rfl, rfl, fun _ hz => absurd hz List.not_mem_nil, World.ownsRow_nil _ _ _ _, HB2.out⟩
  · clear hb2 hown hz HP
    go_wp2_with fail
    go_loopw [6] (fun vi wr => ∃ (i : Nat) (ys : List Nat), vi = .int .i64 i ∧ i ≤ zs.length ∧ Hid (ys.length = zs.length ∧ ∀ z ∈ ys, z < 4294967296) ∧ wr.ownsRow w.heap.size 36 1 (.slice (some ⟨g, 0, none⟩) zs.length cap) zs.length (ys.map u32v) ∧ Below w.heap.size w wr) (fun vi _ => zs.length - (intOf vi).toNat)
    case atStart => exact ⟨0, zs, rfl, by omega, Lib.hid ⟨rfl, HZ.out⟩, HO.out, HB2.out⟩
    case round =>
      obtain ⟨i, ys, rfl, hi, HY, hO, hB⟩ := hrel
      by_cases hp : i < zs.length
      · have hpy : i < ys.length := by rw [HY.out.1]; exact hp
        have hzi := HY.out.2 _ (List.getElem_mem hpy)
        have hd : wr.cell? ⟨g, i, none⟩ = some (u32v ys[i]) := by
          rw [hO.cellAt i (by omega)]
          simp [hpy]
        obtain ⟨z, hzz⟩ : ∃ z, ys[i] = z := ⟨_, rfl⟩
        rw [hzz] at hd hzi
        change wr.cell? ⟨g, i, none⟩ = some (.int .u32 (z : Int)) at hd
        obtain ⟨y, hy, hyl⟩ := u32_mod ((z : Int) * 16)
        have HYL := Lib.hid hyl
        have hs := hO.stored i (.int .u32 (y : Int))
        have hf := hO.frozenAt i
        have i2 : (i : Int) < (zs.length : Int) := by omega
        have HGB := Lib.hid (own_lt hO g rfl)
        have hO1 := hs.1
        rw [show Value.int .u32 (y : Int) = u32v y from rfl, map_setU] at hO1
        have HB := Lib.hid (hB.grown hs.2 hB.size (fun k hk => by obtain rfl := Option.some.inj hk; exact HGB.out))
        have HO1 := Lib.hid hO1
        by_cases h0 : i = 0
        · subst h0
          have hd2 : (wr.setCell ⟨g, 0, none⟩ (.int .u32 (y : Int))).cell? ⟨g, 0, none⟩ = some (.int .u32 (y : Int)) := World.cell?_setCell_same _ _ _ hd
          have hf2 := hO1.frozenAt 0
          obtain ⟨y2, hy2, hyl2⟩ := u32_mod ((y : Int) + (t : Int))
          have hs2 := hO1.stored 0 (.int .u32 (y2 : Int))
          have hO2 := hs2.1
          rw [show Value.int .u32 (y2 : Int) = u32v y2 from rfl, map_setU] at hO2
          have HO2 := Lib.hid hO2
          have HB3 := Lib.hid (HB.out.grown hs2.2 HB.out.size (fun k hk => by obtain rfl := Option.some.inj hk; exact HGB.out))
          have HY2 := Lib.hid hyl2
          clear hO hB hzz hpy HO HB2 HZ hs hs2 hO1 hO2 hyl hyl2
          go_wp2_with fail
          go_roundw
          case rel => exact ⟨1, (ys.set 0 y).set 0 y2, rfl, by omega, Lib.hid ⟨by rw [List.length_set, List.length_set]; exact HY.out.1, small_set (small_set HY.out.2 0 HYL.out) 0 HY2.out⟩, HO2.out, HB3.out⟩
          case measure => simp [intOf]; omega
        · have hne : ((i : Int) == 0) = false := by simp; omega
          clear hO hB hzz hpy HO HB2 HZ hs hO1 hyl h0
          go_wp2_with fail
          go_roundw
          case rel => exact ⟨i + 1, ys.set i y, by go_num, by omega, Lib.hid ⟨by rw [List.length_set]; exact HY.out.1, small_set HY.out.2 i HYL.out⟩, HO1.out, HB.out⟩
          case measure => simp [intOf]; omega
      · obtain rfl : i = zs.length := by omega
        go_wp2_with fail
        go_ret
        exact ⟨_, ys, rfl, HY.out.1, HY.out.2, by rw [HY.out.1]; exact hO, hB⟩
end Go.Proofs.YtogdbfjagnbllaaGreatDoor

namespace Go.Proofs.YtogdbfjagnbllaaGreatDoor
open Go.RowKit Go

set_option maxHeartbeats 1000000 in
theorem spec_narrow (n : Int) (x : Bool) (s l : Nat) (h1 : -67108864 ≤ n) (h2 : n ≤ 67108863) (w : World) : Calls Tryz.prog 84 #[.int .i32 n, .bool x, .int .u32 s, .int .u32 l] w (NewLen w 1) := by
  cases x with
  | true =>
    go_enter Tryz.func84, Tryz.ntmps84
    go_wp2_with fail
    go_ret
    exact new_one rfl (u32_mod _) (Below.refl _ _)
  | false =>
    go_enter Tryz.func84, Tryz.ntmps84
    go_wp2_with fail
    go_ret
    exact new_one rfl (u32_mod _) (Below.refl _ _)
set_option maxHeartbeats 1000000 in
theorem spec_wide (n : Int) (x : Bool) (s l : Nat) (h : n < -67108864 ∨ 67108863 < n) (w : World) : Calls Tryz.prog 84 #[.int .i32 n, .bool x, .int .u32 s, .int .u32 l] w (NewLen w 2) := by
  rcases h with h | h
  · cases x with
    | true =>
      go_enter Tryz.func84, Tryz.ntmps84
      go_wp2_with fail
      go_ret
      exact new_two rfl (u32_mod _) (u32_some _) (Below.refl _ _)
    | false =>
      go_enter Tryz.func84, Tryz.ntmps84
      go_wp2_with fail
      go_ret
      exact new_two rfl (u32_mod _) (u32_some _) (Below.refl _ _)
  · have h' : -67108864 ≤ n := by omega
    cases x with
    | true =>
      go_enter Tryz.func84, Tryz.ntmps84
      go_wp2_with fail
      go_ret
      exact new_two rfl (u32_mod _) (u32_some _) (Below.refl _ _)
    | false =>
      go_enter Tryz.func84, Tryz.ntmps84
      go_wp2_with fail
      go_ret
      exact new_two rfl (u32_mod _) (u32_some _) (Below.refl _ _)
set_option maxHeartbeats 1000000 in
theorem spec_tag (k : Int) (w : World) : Calls Tryz.prog 86 #[.int .i64 k] w fun e w' => e = .returned (.int .u32 (tagW k : Int)) ∧ w = w' := by
  by_cases h1 : k = 1
  · subst h1
    go_enter Tryz.func86, Tryz.ntmps86
    go_wp2_with fail
    go_ret
    exact ⟨rfl, rfl⟩
  by_cases h2 : k = 2
  · subst h2
    go_enter Tryz.func86, Tryz.ntmps86
    go_wp2_with fail
    go_ret
    exact ⟨rfl, rfl⟩
  by_cases h3 : k = 3
  · subst h3
    go_enter Tryz.func86, Tryz.ntmps86
    go_wp2_with fail
    go_ret
    exact ⟨rfl, rfl⟩
  by_cases h4 : k = 4
  · subst h4
    go_enter Tryz.func86, Tryz.ntmps86
    go_wp2_with fail
    go_ret
    exact ⟨rfl, rfl⟩
  by_cases h5 : k = 5
  · subst h5
    go_enter Tryz.func86, Tryz.ntmps86
    go_wp2_with fail
    go_ret
    exact ⟨rfl, rfl⟩
  by_cases h6 : k = 6
  · subst h6
    go_enter Tryz.func86, Tryz.ntmps86
    go_wp2_with fail
    go_ret
    exact ⟨rfl, rfl⟩
  have e : tagW k = 0 := by unfold tagW; rw [if_neg h1, if_neg h2, if_neg h3, if_neg h4, if_neg h5, if_neg h6]
  have b1 : (k == 1) = false := by simpa using h1
  have b2 : (k == 2) = false := by simpa using h2
  have b3 : (k == 3) = false := by simpa using h3
  have b4 : (k == 4) = false := by simpa using h4
  have b5 : (k == 5) = false := by simpa using h5
  have b6 : (k == 6) = false := by simpa using h6
  rw [e]
  clear e h1 h2 h3 h4 h5 h6
  go_enter Tryz.func86, Tryz.ntmps86
  go_wp2_with fail
  go_ret
  exact ⟨rfl, rfl⟩
end Go.Proofs.YtogdbfjagnbllaaGreatDoor

namespace Go.Proofs.YtogdbfjagnbllaaGreatDoor
open Go.RowKit Go

set_option maxHeartbeats 1000000 in
theorem sc_raw_NVVE (n : Int) (hn : (n == 0) = false) (x : Bool) (r : Nat) (w : World) : Calls Tryz.prog 57 #[itA 0 ⟨#[]⟩ n x (r : Int)] w (NewLen w 0) := by
  go_enter Tryz.func57, Tryz.ntmps57
  go_wp2_with fail
  go_ret
  exact new_emp (by simp) (by go_grown)

set_option maxHeartbeats 1000000 in
theorem sc_raw_NVVN (nm : ByteArray) (hnm : nm.toList.isEmpty = false) (n : Int) (hn : (n == 0) = false) (x : Bool) (r : Nat) (w : World) : Calls Tryz.prog 57 #[itA 0 nm n x (r : Int)] w (NewLen w 0) := by
  go_enter Tryz.func57, Tryz.ntmps57
  go_wp2_with fail
  go_ret
  exact new_emp (by simp) (by go_grown)

set_option maxHeartbeats 1000000 in
theorem sc_raw_ZTVE (r : Nat) (w : World) : Calls Tryz.prog 57 #[itA 0 ⟨#[]⟩ 0 true (r : Int)] w (NewLen w 0) := by
  go_enter Tryz.func57, Tryz.ntmps57
  go_wp2_with fail
  go_ret
  exact new_emp (by simp) (by go_grown)

set_option maxHeartbeats 1000000 in
theorem sc_raw_ZTVN (nm : ByteArray) (hnm : nm.toList.isEmpty = false) (r : Nat) (w : World) : Calls Tryz.prog 57 #[itA 0 nm 0 true (r : Int)] w (NewLen w 0) := by
  go_enter Tryz.func57, Tryz.ntmps57
  go_wp2_with fail
  go_ret
  exact new_emp (by simp) (by go_grown)

set_option maxHeartbeats 1000000 in
theorem sc_raw_ZFNE (r : Nat) (hr : ((r : Int) == 0) = false) (hr2 : r < 4294967296) (w : World) : Calls Tryz.prog 57 #[itA 0 ⟨#[]⟩ 0 false (r : Int)] w (NewLen w 1) := by
  have HR := Lib.hid hr2
  clear hr2
  go_enter Tryz.func57, Tryz.ntmps57
  go_wp2_with fail
  go_ret
  exact new_one (by simp) ⟨r, rfl, HR.out⟩ (by go_grown)

set_option maxHeartbeats 1000000 in
theorem sc_raw_ZFNN (nm : ByteArray) (hnm : nm.toList.isEmpty = false) (r : Nat) (hr : ((r : Int) == 0) = false) (w : World) : Calls Tryz.prog 57 #[itA 0 nm 0 false (r : Int)] w (NewLen w 0) := by
  go_enter Tryz.func57, Tryz.ntmps57
  go_wp2_with fail
  go_ret
  exact new_emp (by simp) (by go_grown)

set_option maxHeartbeats 1000000 in
theorem sc_raw_ZFZE  (w : World) : Calls Tryz.prog 57 #[itA 0 ⟨#[]⟩ 0 false 0] w (NewLen w 1) := by
  go_enter Tryz.func57, Tryz.ntmps57
  go_wp2_with fail
  go_ret
  exact new_one (by simp) ⟨0, rfl, by omega⟩ (by go_grown)

set_option maxHeartbeats 1000000 in
theorem sc_raw_ZFZN (nm : ByteArray) (hnm : nm.toList.isEmpty = false) (w : World) : Calls Tryz.prog 57 #[itA 0 nm 0 false 0] w (NewLen w 0) := by
  go_enter Tryz.func57, Tryz.ntmps57
  go_wp2_with fail
  go_ret
  exact new_emp (by simp) (by go_grown)

end Go.Proofs.YtogdbfjagnbllaaGreatDoor

namespace Go.Proofs.YtogdbfjagnbllaaGreatDoor
open Go.RowKit Go

set_option maxHeartbeats 1000000 in
theorem sc_n7_NVZE (n : Int) (hn : (n == 0) = false) (x : Bool) (m : Nat) (HN : Hid (∀ W, Calls Tryz.prog 84 #[.int .i32 n, .bool x, .int .u32 8, .int .u32 2] W (NewLen W m))) (w : World) : Calls Tryz.prog 57 #[itA 7 ⟨#[]⟩ n x 0] w (NewLen w m) := by
  go_enter Tryz.func57, Tryz.ntmps57
  go_wp2_with fail
  refine (HN.out _).mono ?_
  rintro e w3 ⟨v, zs, rfl, hl, hz, hown, hb3⟩
  have HE := Lib.hid (show NewLen w m (.returned v) w3 from ⟨v, zs, rfl, hl, hz, own_base hown (by simp), (((Below.refl w.heap.size w).alloc (Nat.le_refl _) _).trans (hb3.mono (by simp)))⟩)
  clear hl hz hown hb3
  go_wp2_with fail
  go_ret
  exact HE.out

set_option maxHeartbeats 1000000 in
theorem sc_n7_NVNE (n : Int) (hn : (n == 0) = false) (x : Bool) (r : Nat) (hr : ((r : Int) == 0) = false) (w : World) : Calls Tryz.prog 57 #[itA 7 ⟨#[]⟩ n x (r : Int)] w (NewLen w 0) := by
  go_enter Tryz.func57, Tryz.ntmps57
  go_wp2_with fail
  go_ret
  exact new_emp (by simp) (by go_grown)

set_option maxHeartbeats 1000000 in
theorem sc_n7_NVVN (nm : ByteArray) (hnm : nm.toList.isEmpty = false) (n : Int) (hn : (n == 0) = false) (x : Bool) (r : Nat) (w : World) : Calls Tryz.prog 57 #[itA 7 nm n x (r : Int)] w (NewLen w 0) := by
  go_enter Tryz.func57, Tryz.ntmps57
  go_wp2_with fail
  go_ret
  exact new_emp (by simp) (by go_grown)

set_option maxHeartbeats 1000000 in
theorem sc_n7_ZTZE (m : Nat) (HN : Hid (∀ W, Calls Tryz.prog 84 #[.int .i32 0, .bool true, .int .u32 8, .int .u32 2] W (NewLen W m))) (w : World) : Calls Tryz.prog 57 #[itA 7 ⟨#[]⟩ 0 true 0] w (NewLen w m) := by
  go_enter Tryz.func57, Tryz.ntmps57
  go_wp2_with fail
  refine (HN.out _).mono ?_
  rintro e w3 ⟨v, zs, rfl, hl, hz, hown, hb3⟩
  have HE := Lib.hid (show NewLen w m (.returned v) w3 from ⟨v, zs, rfl, hl, hz, own_base hown (by simp), (((Below.refl w.heap.size w).alloc (Nat.le_refl _) _).trans (hb3.mono (by simp)))⟩)
  clear hl hz hown hb3
  go_wp2_with fail
  go_ret
  exact HE.out

set_option maxHeartbeats 1000000 in
theorem sc_n7_ZTNE (r : Nat) (hr : ((r : Int) == 0) = false) (w : World) : Calls Tryz.prog 57 #[itA 7 ⟨#[]⟩ 0 true (r : Int)] w (NewLen w 0) := by
  go_enter Tryz.func57, Tryz.ntmps57
  go_wp2_with fail
  go_ret
  exact new_emp (by simp) (by go_grown)

set_option maxHeartbeats 1000000 in
theorem sc_n7_ZTVN (nm : ByteArray) (hnm : nm.toList.isEmpty = false) (r : Nat) (w : World) : Calls Tryz.prog 57 #[itA 7 nm 0 true (r : Int)] w (NewLen w 0) := by
  go_enter Tryz.func57, Tryz.ntmps57
  go_wp2_with fail
  go_ret
  exact new_emp (by simp) (by go_grown)

set_option maxHeartbeats 1000000 in
theorem sc_n7_ZFNE (r : Nat) (hr : ((r : Int) == 0) = false) (w : World) : Calls Tryz.prog 57 #[itA 7 ⟨#[]⟩ 0 false (r : Int)] w (NewLen w 0) := by
  go_enter Tryz.func57, Tryz.ntmps57
  go_wp2_with fail
  go_ret
  exact new_emp (by simp) (by go_grown)

set_option maxHeartbeats 1000000 in
theorem sc_n7_ZFNN (nm : ByteArray) (hnm : nm.toList.isEmpty = false) (r : Nat) (hr : ((r : Int) == 0) = false) (w : World) : Calls Tryz.prog 57 #[itA 7 nm 0 false (r : Int)] w (NewLen w 0) := by
  go_enter Tryz.func57, Tryz.ntmps57
  go_wp2_with fail
  go_ret
  exact new_emp (by simp) (by go_grown)

set_option maxHeartbeats 1000000 in
theorem sc_n7_ZFZE (m : Nat) (HN : Hid (∀ W, Calls Tryz.prog 84 #[.int .i32 0, .bool false, .int .u32 8, .int .u32 2] W (NewLen W m))) (w : World) : Calls Tryz.prog 57 #[itA 7 ⟨#[]⟩ 0 false 0] w (NewLen w m) := by
  go_enter Tryz.func57, Tryz.ntmps57
  go_wp2_with fail
  refine (HN.out _).mono ?_
  rintro e w3 ⟨v, zs, rfl, hl, hz, hown, hb3⟩
  have HE := Lib.hid (show NewLen w m (.returned v) w3 from ⟨v, zs, rfl, hl, hz, own_base hown (by simp), (((Below.refl w.heap.size w).alloc (Nat.le_refl _) _).trans (hb3.mono (by simp)))⟩)
  clear hl hz hown hb3
  go_wp2_with fail
  go_ret
  exact HE.out

set_option maxHeartbeats 1000000 in
theorem sc_n7_ZFZN (nm : ByteArray) (hnm : nm.toList.isEmpty = false) (w : World) : Calls Tryz.prog 57 #[itA 7 nm 0 false 0] w (NewLen w 0) := by
  go_enter Tryz.func57, Tryz.ntmps57
  go_wp2_with fail
  go_ret
  exact new_emp (by simp) (by go_grown)

end Go.Proofs.YtogdbfjagnbllaaGreatDoor

namespace Go.Proofs.YtogdbfjagnbllaaGreatDoor
open Go.RowKit Go

set_option maxHeartbeats 1000000 in
theorem sc_n8_NVZE (n : Int) (hn : (n == 0) = false) (x : Bool) (m : Nat) (HN : Hid (∀ W, Calls Tryz.prog 84 #[.int .i32 n, .bool x, .int .u32 6, .int .u32 5] W (NewLen W m))) (w : World) : Calls Tryz.prog 57 #[itA 8 ⟨#[]⟩ n x 0] w (NewLen w m) := by
  go_enter Tryz.func57, Tryz.ntmps57
  go_wp2_with fail
  refine (HN.out _).mono ?_
  rintro e w3 ⟨v, zs, rfl, hl, hz, hown, hb3⟩
  have HE := Lib.hid (show NewLen w m (.returned v) w3 from ⟨v, zs, rfl, hl, hz, own_base hown (by simp), (((Below.refl w.heap.size w).alloc (Nat.le_refl _) _).trans (hb3.mono (by simp)))⟩)
  clear hl hz hown hb3
  go_wp2_with fail
  go_ret
  exact HE.out

set_option maxHeartbeats 1000000 in
theorem sc_n8_NVNE (n : Int) (hn : (n == 0) = false) (x : Bool) (r : Nat) (hr : ((r : Int) == 0) = false) (w : World) : Calls Tryz.prog 57 #[itA 8 ⟨#[]⟩ n x (r : Int)] w (NewLen w 0) := by
  go_enter Tryz.func57, Tryz.ntmps57
  go_wp2_with fail
  go_ret
  exact new_emp (by simp) (by go_grown)

set_option maxHeartbeats 1000000 in
theorem sc_n8_NVVN (nm : ByteArray) (hnm : nm.toList.isEmpty = false) (n : Int) (hn : (n == 0) = false) (x : Bool) (r : Nat) (w : World) : Calls Tryz.prog 57 #[itA 8 nm n x (r : Int)] w (NewLen w 0) := by
  go_enter Tryz.func57, Tryz.ntmps57
  go_wp2_with fail
  go_ret
  exact new_emp (by simp) (by go_grown)

set_option maxHeartbeats 1000000 in
theorem sc_n8_ZTZE (m : Nat) (HN : Hid (∀ W, Calls Tryz.prog 84 #[.int .i32 0, .bool true, .int .u32 6, .int .u32 5] W (NewLen W m))) (w : World) : Calls Tryz.prog 57 #[itA 8 ⟨#[]⟩ 0 true 0] w (NewLen w m) := by
  go_enter Tryz.func57, Tryz.ntmps57
  go_wp2_with fail
  refine (HN.out _).mono ?_
  rintro e w3 ⟨v, zs, rfl, hl, hz, hown, hb3⟩
  have HE := Lib.hid (show NewLen w m (.returned v) w3 from ⟨v, zs, rfl, hl, hz, own_base hown (by simp), (((Below.refl w.heap.size w).alloc (Nat.le_refl _) _).trans (hb3.mono (by simp)))⟩)
  clear hl hz hown hb3
  go_wp2_with fail
  go_ret
  exact HE.out

set_option maxHeartbeats 1000000 in
theorem sc_n8_ZTNE (r : Nat) (hr : ((r : Int) == 0) = false) (w : World) : Calls Tryz.prog 57 #[itA 8 ⟨#[]⟩ 0 true (r : Int)] w (NewLen w 0) := by
  go_enter Tryz.func57, Tryz.ntmps57
  go_wp2_with fail
  go_ret
  exact new_emp (by simp) (by go_grown)

set_option maxHeartbeats 1000000 in
theorem sc_n8_ZTVN (nm : ByteArray) (hnm : nm.toList.isEmpty = false) (r : Nat) (w : World) : Calls Tryz.prog 57 #[itA 8 nm 0 true (r : Int)] w (NewLen w 0) := by
  go_enter Tryz.func57, Tryz.ntmps57
  go_wp2_with fail
  go_ret
  exact new_emp (by simp) (by go_grown)

set_option maxHeartbeats 1000000 in
theorem sc_n8_ZFNE (r : Nat) (hr : ((r : Int) == 0) = false) (w : World) : Calls Tryz.prog 57 #[itA 8 ⟨#[]⟩ 0 false (r : Int)] w (NewLen w 0) := by
  go_enter Tryz.func57, Tryz.ntmps57
  go_wp2_with fail
  go_ret
  exact new_emp (by simp) (by go_grown)

set_option maxHeartbeats 1000000 in
theorem sc_n8_ZFNN (nm : ByteArray) (hnm : nm.toList.isEmpty = false) (r : Nat) (hr : ((r : Int) == 0) = false) (w : World) : Calls Tryz.prog 57 #[itA 8 nm 0 false (r : Int)] w (NewLen w 0) := by
  go_enter Tryz.func57, Tryz.ntmps57
  go_wp2_with fail
  go_ret
  exact new_emp (by simp) (by go_grown)

set_option maxHeartbeats 1000000 in
theorem sc_n8_ZFZE (m : Nat) (HN : Hid (∀ W, Calls Tryz.prog 84 #[.int .i32 0, .bool false, .int .u32 6, .int .u32 5] W (NewLen W m))) (w : World) : Calls Tryz.prog 57 #[itA 8 ⟨#[]⟩ 0 false 0] w (NewLen w m) := by
  go_enter Tryz.func57, Tryz.ntmps57
  go_wp2_with fail
  refine (HN.out _).mono ?_
  rintro e w3 ⟨v, zs, rfl, hl, hz, hown, hb3⟩
  have HE := Lib.hid (show NewLen w m (.returned v) w3 from ⟨v, zs, rfl, hl, hz, own_base hown (by simp), (((Below.refl w.heap.size w).alloc (Nat.le_refl _) _).trans (hb3.mono (by simp)))⟩)
  clear hl hz hown hb3
  go_wp2_with fail
  go_ret
  exact HE.out

set_option maxHeartbeats 1000000 in
theorem sc_n8_ZFZN (nm : ByteArray) (hnm : nm.toList.isEmpty = false) (w : World) : Calls Tryz.prog 57 #[itA 8 nm 0 false 0] w (NewLen w 0) := by
  go_enter Tryz.func57, Tryz.ntmps57
  go_wp2_with fail
  go_ret
  exact new_emp (by simp) (by go_grown)

end Go.Proofs.YtogdbfjagnbllaaGreatDoor

namespace Go.Proofs.YtogdbfjagnbllaaGreatDoor
open Go.RowKit Go

set_option maxHeartbeats 1000000 in
theorem sc_word_NVV (k : Int) (h : wordK k = true) (nm : ByteArray) (n : Int) (hn : (n == 0) = false) (x : Bool) (r : Nat) (w : World) : Calls Tryz.prog 57 #[itA k nm n x (r : Int)] w (NewLen w 0) := by
  have hk := of_decide_eq_true h
  have b0 : (k == 0) = false := by simp; omega
  have b7 : (k == 7) = false := by simp; omega
  have b8 : (k == 8) = false := by simp; omega
  have b9 : (k == 9) = false := by simp; omega
  have HT := Lib.hid (fun W => spec_tag k W)
  have ht : 0 < tagW k := by
    unfold tagW
    (repeat' split) <;> omega
  obtain ⟨t, htt⟩ : ∃ t, tagW k = t := ⟨_, rfl⟩
  rw [htt] at HT ht
  clear h hk htt
  go_enter Tryz.func57, Tryz.ntmps57
  go_wp2_with fail
  refine (HT.out _).mono ?_
  rintro e w' ⟨rfl, rfl⟩
  go_wp2_with fail
  go_ret
  exact new_emp (by simp) (by go_grown)

set_option maxHeartbeats 1000000 in
theorem sc_word_ZTV (k : Int) (h : wordK k = true) (nm : ByteArray) (r : Nat) (w : World) : Calls Tryz.prog 57 #[itA k nm 0 true (r : Int)] w (NewLen w 0) := by
  have hk := of_decide_eq_true h
  have b0 : (k == 0) = false := by simp; omega
  have b7 : (k == 7) = false := by simp; omega
  have b8 : (k == 8) = false := by simp; omega
  have b9 : (k == 9) = false := by simp; omega
  have HT := Lib.hid (fun W => spec_tag k W)
  have ht : 0 < tagW k := by
    unfold tagW
    (repeat' split) <;> omega
  obtain ⟨t, htt⟩ : ∃ t, tagW k = t := ⟨_, rfl⟩
  rw [htt] at HT ht
  clear h hk htt
  go_enter Tryz.func57, Tryz.ntmps57
  go_wp2_with fail
  refine (HT.out _).mono ?_
  rintro e w' ⟨rfl, rfl⟩
  go_wp2_with fail
  go_ret
  exact new_emp (by simp) (by go_grown)

set_option maxHeartbeats 1000000 in
theorem sc_word_ZFN (k : Int) (h : wordK k = true) (nm : ByteArray) (r : Nat) (hr : ((r : Int) == 0) = false) (w : World) : Calls Tryz.prog 57 #[itA k nm 0 false (r : Int)] w (NewLen w 0) := by
  have hk := of_decide_eq_true h
  have b0 : (k == 0) = false := by simp; omega
  have b7 : (k == 7) = false := by simp; omega
  have b8 : (k == 8) = false := by simp; omega
  have b9 : (k == 9) = false := by simp; omega
  have HT := Lib.hid (fun W => spec_tag k W)
  have ht : 0 < tagW k := by
    unfold tagW
    (repeat' split) <;> omega
  obtain ⟨t, htt⟩ : ∃ t, tagW k = t := ⟨_, rfl⟩
  rw [htt] at HT ht
  clear h hk htt
  go_enter Tryz.func57, Tryz.ntmps57
  go_wp2_with fail
  refine (HT.out _).mono ?_
  rintro e w' ⟨rfl, rfl⟩
  go_wp2_with fail
  go_ret
  exact new_emp (by simp) (by go_grown)

set_option maxHeartbeats 1000000 in
theorem sc_word_ZFZ (k : Int) (h : wordK k = true) (nm : ByteArray) (hs : nm.size ≤ 4611686018427387904) (w : World) : Calls Tryz.prog 57 #[itA k nm 0 false 0] w (NewLen w (packs nm.data.toList).length) := by
  have hk := of_decide_eq_true h
  have b0 : (k == 0) = false := by simp; omega
  have b7 : (k == 7) = false := by simp; omega
  have b8 : (k == 8) = false := by simp; omega
  have b9 : (k == 9) = false := by simp; omega
  have HT := Lib.hid (fun W => spec_tag k W)
  have ht : 0 < tagW k := by
    unfold tagW
    (repeat' split) <;> omega
  have HWD := Lib.hid (fun t W => spec_word t nm hs W)
  clear hs
  obtain ⟨t, htt⟩ : ∃ t, tagW k = t := ⟨_, rfl⟩
  rw [htt] at HT ht
  clear h hk htt
  go_enter Tryz.func57, Tryz.ntmps57
  go_wp2_with fail
  refine (HT.out _).mono ?_
  rintro e w' ⟨rfl, rfl⟩
  go_wp2_with fail
  refine (HWD.out _ _).mono ?_
  rintro e w3 ⟨v, zs, rfl, hl, hz, hown, hb3⟩
  have HE := Lib.hid (show NewLen w (packs nm.data.toList).length (.returned v) w3 from ⟨v, zs, rfl, hl, hz, own_base hown (by simp), (((Below.refl w.heap.size w).alloc (Nat.le_refl _) _).trans (hb3.mono (by simp)))⟩)
  clear hl hz hown hb3
  go_wp2_with fail
  go_ret
  exact HE.out

set_option maxHeartbeats 1000000 in
theorem sc_else_NVV (k : Int) (h : ¬ (0 ≤ k ∧ k ≤ 9)) (nm : ByteArray) (n : Int) (hn : (n == 0) = false) (x : Bool) (r : Nat) (w : World) : Calls Tryz.prog 57 #[itA k nm n x (r : Int)] w (NewLen w 0) := by
  have b0 : (k == 0) = false := by simp; omega
  have b7 : (k == 7) = false := by simp; omega
  have b8 : (k == 8) = false := by simp; omega
  have b9 : (k == 9) = false := by simp; omega
  have ht : tagW k = 0 := by unfold tagW; rw [if_neg (by omega), if_neg (by omega), if_neg (by omega), if_neg (by omega), if_neg (by omega), if_neg (by omega)]
  have HT := Lib.hid (fun W => spec_tag k W)
  rw [ht] at HT
  clear h ht
  go_enter Tryz.func57, Tryz.ntmps57
  go_wp2_with fail
  refine (HT.out _).mono ?_
  rintro e w' ⟨rfl, rfl⟩
  go_wp2_with fail
  go_ret
  exact new_emp (by simp) (by go_grown)

set_option maxHeartbeats 1000000 in
theorem sc_else_ZTV (k : Int) (h : ¬ (0 ≤ k ∧ k ≤ 9)) (nm : ByteArray) (r : Nat) (w : World) : Calls Tryz.prog 57 #[itA k nm 0 true (r : Int)] w (NewLen w 0) := by
  have b0 : (k == 0) = false := by simp; omega
  have b7 : (k == 7) = false := by simp; omega
  have b8 : (k == 8) = false := by simp; omega
  have b9 : (k == 9) = false := by simp; omega
  have ht : tagW k = 0 := by unfold tagW; rw [if_neg (by omega), if_neg (by omega), if_neg (by omega), if_neg (by omega), if_neg (by omega), if_neg (by omega)]
  have HT := Lib.hid (fun W => spec_tag k W)
  rw [ht] at HT
  clear h ht
  go_enter Tryz.func57, Tryz.ntmps57
  go_wp2_with fail
  refine (HT.out _).mono ?_
  rintro e w' ⟨rfl, rfl⟩
  go_wp2_with fail
  go_ret
  exact new_emp (by simp) (by go_grown)

set_option maxHeartbeats 1000000 in
theorem sc_else_ZFN (k : Int) (h : ¬ (0 ≤ k ∧ k ≤ 9)) (nm : ByteArray) (r : Nat) (hr : ((r : Int) == 0) = false) (w : World) : Calls Tryz.prog 57 #[itA k nm 0 false (r : Int)] w (NewLen w 0) := by
  have b0 : (k == 0) = false := by simp; omega
  have b7 : (k == 7) = false := by simp; omega
  have b8 : (k == 8) = false := by simp; omega
  have b9 : (k == 9) = false := by simp; omega
  have ht : tagW k = 0 := by unfold tagW; rw [if_neg (by omega), if_neg (by omega), if_neg (by omega), if_neg (by omega), if_neg (by omega), if_neg (by omega)]
  have HT := Lib.hid (fun W => spec_tag k W)
  rw [ht] at HT
  clear h ht
  go_enter Tryz.func57, Tryz.ntmps57
  go_wp2_with fail
  refine (HT.out _).mono ?_
  rintro e w' ⟨rfl, rfl⟩
  go_wp2_with fail
  go_ret
  exact new_emp (by simp) (by go_grown)

set_option maxHeartbeats 1000000 in
theorem sc_else_ZFZ (k : Int) (h : ¬ (0 ≤ k ∧ k ≤ 9)) (nm : ByteArray) (w : World) : Calls Tryz.prog 57 #[itA k nm 0 false 0] w (NewLen w 0) := by
  have b0 : (k == 0) = false := by simp; omega
  have b7 : (k == 7) = false := by simp; omega
  have b8 : (k == 8) = false := by simp; omega
  have b9 : (k == 9) = false := by simp; omega
  have ht : tagW k = 0 := by unfold tagW; rw [if_neg (by omega), if_neg (by omega), if_neg (by omega), if_neg (by omega), if_neg (by omega), if_neg (by omega)]
  have HT := Lib.hid (fun W => spec_tag k W)
  rw [ht] at HT
  clear h ht
  go_enter Tryz.func57, Tryz.ntmps57
  go_wp2_with fail
  refine (HT.out _).mono ?_
  rintro e w' ⟨rfl, rfl⟩
  go_wp2_with fail
  go_ret
  exact new_emp (by simp) (by go_grown)

end Go.Proofs.YtogdbfjagnbllaaGreatDoor

namespace Go.Proofs.YtogdbfjagnbllaaGreatDoor
open Go.RowKit Go

set_option maxHeartbeats 1000000 in
theorem word_item (k : Int) (nm : ByteArray) (w : World) : Calls Tryz.prog 190 #[.agg #[.int .i64 k, .string nm]] w fun e w' => e = .returned (itA k nm 0 false 0) ∧ Below w.heap.size w w' := by
  go_enter Tryz.func190, Tryz.ntmps190
  go_wp2_with fail
  refine (bare_any k _).mono ?_
  rintro e w1 ⟨rfl, hb⟩
  obtain ⟨k1, k2, hB, hz⟩ := two_boxes hb
  have c0 : w1.cell? ⟨w.heap.size, 1, none⟩ = some (.string nm) := k1.cell 1
  obtain ⟨d0, d1, d2, d3, d4, f0, f1, f2, f3, f4⟩ := itC_cells (k := 0) (nm := ⟨#[]⟩) (n := 0) (hx := false) (r := 0) k2
  have hz1 : w.heap.size < w1.heap.size := by omega
  have hz2 : w.heap.size + 1 < w1.heap.size := by omega
  have HB := Lib.hid hB
  have K2 := Lib.hid k2
  clear hb hB k1 k2 hz
  go_wp2_with fail
  refine bodyPost_ret (v := itA k nm 0 false 0) (by have k2 := K2.out; simp [results, Tryz.results190, item_result k2, itC, go_sem]) rfl ⟨rfl, ?_⟩
  have hB := HB.out
  go_grown
end Go.Proofs.YtogdbfjagnbllaaGreatDoor

namespace Go.Proofs.YtogdbfjagnbllaaGreatDoor
open Go.RowKit Go

set_option maxHeartbeats 1000000 in
theorem number_item (k n : Int) (hx : Bool) (w : World) : Calls Tryz.prog 193 #[.agg #[.int .i64 k, .int .i32 n, .bool hx]] w fun e w' => e = .returned (itA k ⟨#[]⟩ n hx 0) ∧ Below w.heap.size w w' := by
  go_enter Tryz.func193, Tryz.ntmps193
  go_wp2_with fail
  refine (bare_any k _).mono ?_
  rintro e w1 ⟨rfl, hb⟩
  obtain ⟨k1, k2, hB, hz⟩ := two_boxes hb
  have c0 : w1.cell? ⟨w.heap.size, 1, none⟩ = some (.int .i32 n) := k1.cell 1
  have c1 : w1.cell? ⟨w.heap.size, 2, none⟩ = some (.bool hx) := k1.cell 2
  obtain ⟨d0, d1, d2, d3, d4, f0, f1, f2, f3, f4⟩ := itC_cells (k := 0) (nm := ⟨#[]⟩) (n := 0) (hx := false) (r := 0) k2
  have hz1 : w.heap.size < w1.heap.size := by omega
  have hz2 : w.heap.size + 1 < w1.heap.size := by omega
  have HB := Lib.hid hB
  have K2 := Lib.hid k2
  clear hb hB k1 k2 hz
  go_wp2_with fail
  go_region
  all_goals go_wp2_with fail
  all_goals (refine bodyPost_ret (v := itA k ⟨#[]⟩ n hx 0) (by have k2 := K2.out; simp [results, Tryz.results193, item_result k2, itC, go_sem]) rfl ⟨rfl, ?_⟩; have hB := HB.out; go_grown)
end Go.Proofs.YtogdbfjagnbllaaGreatDoor

namespace Go.Proofs.YtogdbfjagnbllaaGreatDoor
open Go.RowKit Go

set_option maxHeartbeats 1000000 in
theorem variable_item (k n : Int) (nm : ByteArray) (w : World) : Calls Tryz.prog 196 #[.agg #[.int .i64 k, .string nm, .int .i32 n]] w fun e w' => e = .returned (itA k nm n false 0) ∧ Below w.heap.size w w' := by
  go_enter Tryz.func196, Tryz.ntmps196
  go_wp2_with fail
  refine (bare_any k _).mono ?_
  rintro e w1 ⟨rfl, hb⟩
  obtain ⟨k1, k2, hB, hz⟩ := two_boxes hb
  have c0 : w1.cell? ⟨w.heap.size, 1, none⟩ = some (.string nm) := k1.cell 1
  have c1 : w1.cell? ⟨w.heap.size, 2, none⟩ = some (.int .i32 n) := k1.cell 2
  obtain ⟨d0, d1, d2, d3, d4, f0, f1, f2, f3, f4⟩ := itC_cells (k := 0) (nm := ⟨#[]⟩) (n := 0) (hx := false) (r := 0) k2
  have hz1 : w.heap.size < w1.heap.size := by omega
  have hz2 : w.heap.size + 1 < w1.heap.size := by omega
  have HB := Lib.hid hB
  have K2 := Lib.hid k2
  clear hb hB k1 k2 hz
  go_wp2_with fail
  go_region
  all_goals go_wp2_with fail
  all_goals (refine bodyPost_ret (v := itA k nm n false 0) (by have k2 := K2.out; simp [results, Tryz.results196, item_result k2, itC, go_sem]) rfl ⟨rfl, ?_⟩; have hB := HB.out; go_grown)
end Go.Proofs.YtogdbfjagnbllaaGreatDoor

namespace Go.Proofs.YtogdbfjagnbllaaGreatDoor
open Go.RowKit Go

set_option maxHeartbeats 1000000 in
theorem raw_item (k r : Int) (w : World) : Calls Tryz.prog 198 #[.agg #[.int .i64 k, .int .u32 r]] w fun e w' => e = .returned (itA k ⟨#[]⟩ 0 false r) ∧ Below w.heap.size w w' := by
  go_enter Tryz.func198, Tryz.ntmps198
  go_wp2_with fail
  refine (bare_any k _).mono ?_
  rintro e w1 ⟨rfl, hb⟩
  obtain ⟨k1, k2, hB, hz⟩ := two_boxes hb
  have c0 : w1.cell? ⟨w.heap.size, 1, none⟩ = some (.int .u32 r) := k1.cell 1
  obtain ⟨d0, d1, d2, d3, d4, f0, f1, f2, f3, f4⟩ := itC_cells (k := 0) (nm := ⟨#[]⟩) (n := 0) (hx := false) (r := 0) k2
  have hz1 : w.heap.size < w1.heap.size := by omega
  have hz2 : w.heap.size + 1 < w1.heap.size := by omega
  have HB := Lib.hid hB
  have K2 := Lib.hid k2
  clear hb hB k1 k2 hz
  go_wp2_with fail
  refine bodyPost_ret (v := itA k ⟨#[]⟩ 0 false r) (by have k2 := K2.out; simp [results, Tryz.results198, item_result k2, itC, go_sem]) rfl ⟨rfl, ?_⟩
  have hB := HB.out
  go_grown
end Go.Proofs.YtogdbfjagnbllaaGreatDoor

namespace Go.Proofs.YtogdbfjagnbllaaGreatDoor
open Go.RowKit Go

theorem num_box {w w' : World} {k n : Int} {hx : Bool} {t : TypeId} (hB : Below (w.heap.size + 1) (w.alloc (.cells #[.int .i64 k, .int .i32 n, .bool hx] t)) w') :
    w'.cell? ⟨w.heap.size, 0, none⟩ = some (.int .i64 k) ∧ w'.cell? ⟨w.heap.size, 1, none⟩ = some (.int .i32 n) ∧ w'.cell? ⟨w.heap.size, 2, none⟩ = some (.bool hx) ∧ Below w.heap.size w w' := by
  have h := (Blk.new w t #[.int .i64 k, .int .i32 n, .bool hx]).below hB (by omega)
  exact ⟨h.cell 0, h.cell 1, h.cell 2, ((Below.refl _ _).alloc (Nat.le_refl _) _).trans (hB.mono (by omega))⟩
theorem num_keep {w W w2 : World} {k n : Int} {hx : Bool} {t : TypeId} (h1 : Below (w.heap.size + 1) (w.alloc (.cells #[.int .i64 k, .int .i32 n, .bool hx] t)) W) (h2 : Below W.heap.size W w2) :
    w2.cell? ⟨w.heap.size, 0, none⟩ = some (.int .i64 k) ∧ w2.cell? ⟨w.heap.size, 1, none⟩ = some (.int .i32 n) ∧ w2.cell? ⟨w.heap.size, 2, none⟩ = some (.bool hx) ∧ Below w.heap.size w w2 :=
  num_box (h1.trans (h2.mono (by have := h1.size; simp at this; omega)))

theorem num3 {a b c d : Prop} (h : a ∧ b ∧ c ∧ d) : a ∧ b ∧ c := ⟨h.1, h.2.1, h.2.2.1⟩

set_option maxHeartbeats 2000000 in
theorem number_narrow (k n : Int) (hx : Bool) (h0 : 0 ≤ k) (h1 : k ≤ 9) (hn1 : -67108864 ≤ n) (hn2 : n ≤ 67108863) (w : World) (hcs : TabsAny w) : Calls Tryz.prog 192 #[.agg #[.int .i64 k, .int .i32 n, .bool hx]] w (NewLen w 1) := by
  have HT : Hid (∀ W, Below w.heap.size w W → Calls Tryz.prog 188 #[.agg #[.int .i64 k]] W fun e w' => (∃ x : Nat, e = .returned (.int .u32 x) ∧ x < 4294967296) ∧ Below W.heap.size W w') := Lib.hid fun W hb => tag_any k h0 h1 W (hcs.below hb)
  clear hcs h0 h1
  cases hx with
  | true =>
    go_enter Tryz.func192, Tryz.ntmps192
    go_wp2_with fail
    have hbx : Below (w.heap.size + 1) (w.alloc (.cells #[.int .i64 k, .int .i32 n, .bool true] 150)) (w.alloc (.cells #[.int .i64 k, .int .i32 n, .bool true] 150)).drew := (Below.refl _ _).drew
    have HBX := Lib.hid hbx
    clear hbx
    go_region_held3 (fun w' => w'.cell? ⟨w.heap.size, 0, none⟩ = some (.int .i64 k) ∧ w'.cell? ⟨w.heap.size, 1, none⟩ = some (.int .i32 n) ∧ w'.cell? ⟨w.heap.size, 2, none⟩ = some (.bool true)) (first | exact num3 (num_box HBX.out) | go_keep | exact num3 (num_keep HBX.out hb2)) (first | (go_at_call 188; refine (HT.out _ (num_box HBX.out).2.2.2).mono ?_; rintro e w2 ⟨⟨x, rfl, hx⟩, hb2⟩))
    go_wp2
    go_ret
    exact new_one rfl (or_nat _ _) (num_keep HBX.out hb2).2.2.2
  | false =>
    go_enter Tryz.func192, Tryz.ntmps192
    go_wp2_with fail
    have hbx : Below (w.heap.size + 1) (w.alloc (.cells #[.int .i64 k, .int .i32 n, .bool false] 150)) (w.alloc (.cells #[.int .i64 k, .int .i32 n, .bool false] 150)).drew := (Below.refl _ _).drew
    have HBX := Lib.hid hbx
    clear hbx
    go_region_held3 (fun w' => w'.cell? ⟨w.heap.size, 0, none⟩ = some (.int .i64 k) ∧ w'.cell? ⟨w.heap.size, 1, none⟩ = some (.int .i32 n) ∧ w'.cell? ⟨w.heap.size, 2, none⟩ = some (.bool false)) (first | exact num3 (num_box HBX.out) | go_keep | exact num3 (num_keep HBX.out hb2)) (first | (go_at_call 188; refine (HT.out _ (num_box HBX.out).2.2.2).mono ?_; rintro e w2 ⟨⟨x, rfl, hx⟩, hb2⟩))
    go_wp2
    go_ret
    exact new_one rfl (or_nat _ _) (num_keep HBX.out hb2).2.2.2

set_option maxHeartbeats 2000000 in
theorem number_wide (k n : Int) (hx : Bool) (hn : n < -67108864 ∨ 67108863 < n) (w : World) : Calls Tryz.prog 192 #[.agg #[.int .i64 k, .int .i32 n, .bool hx]] w (NewLen w 2) := by
  have HT : Hid (∀ W, Calls Tryz.prog 194 #[.agg #[.int .i64 k, .int .i32 n, .bool hx]] W fun e w' => (∃ x : Nat, e = .returned (.int .u32 x) ∧ x < 4294967296) ∧ Below W.heap.size W w') := Lib.hid fun W => widetag_any k n hx W
  rcases hn with hn | hn
  · cases hx with
    | true =>
      go_enter Tryz.func192, Tryz.ntmps192
      go_wp2_with fail
      have hbx : Below (w.heap.size + 1) (w.alloc (.cells #[.int .i64 k, .int .i32 n, .bool true] 150)) (w.alloc (.cells #[.int .i64 k, .int .i32 n, .bool true] 150)).drew := (Below.refl _ _).drew
      have HBX := Lib.hid hbx
      clear hbx
      go_region_held3 (fun w' => w'.cell? ⟨w.heap.size, 0, none⟩ = some (.int .i64 k) ∧ w'.cell? ⟨w.heap.size, 1, none⟩ = some (.int .i32 n) ∧ w'.cell? ⟨w.heap.size, 2, none⟩ = some (.bool true)) (first | exact num3 (num_box HBX.out) | go_keep | exact num3 (num_keep HBX.out hb2)) (first | (go_at_call 194; refine (HT.out _).mono ?_; rintro e w2 ⟨⟨x, rfl, hx⟩, hb2⟩))
      go_wp2
      go_ret
      exact new_two rfl (or_nat _ _) (u32_some _) (num_keep HBX.out hb2).2.2.2
    | false =>
      go_enter Tryz.func192, Tryz.ntmps192
      go_wp2_with fail
      have hbx : Below (w.heap.size + 1) (w.alloc (.cells #[.int .i64 k, .int .i32 n, .bool false] 150)) (w.alloc (.cells #[.int .i64 k, .int .i32 n, .bool false] 150)).drew := (Below.refl _ _).drew
      have HBX := Lib.hid hbx
      clear hbx
      go_region_held3 (fun w' => w'.cell? ⟨w.heap.size, 0, none⟩ = some (.int .i64 k) ∧ w'.cell? ⟨w.heap.size, 1, none⟩ = some (.int .i32 n) ∧ w'.cell? ⟨w.heap.size, 2, none⟩ = some (.bool false)) (first | exact num3 (num_box HBX.out) | go_keep | exact num3 (num_keep HBX.out hb2)) (first | (go_at_call 194; refine (HT.out _).mono ?_; rintro e w2 ⟨⟨x, rfl, hx⟩, hb2⟩))
      go_wp2
      go_ret
      exact new_two rfl (or_nat _ _) (u32_some _) (num_keep HBX.out hb2).2.2.2
  · have hn2 : -67108864 ≤ n := by omega
    cases hx with
    | true =>
      go_enter Tryz.func192, Tryz.ntmps192
      go_wp2_with fail
      have hbx : Below (w.heap.size + 1) (w.alloc (.cells #[.int .i64 k, .int .i32 n, .bool true] 150)) (w.alloc (.cells #[.int .i64 k, .int .i32 n, .bool true] 150)).drew := (Below.refl _ _).drew
      have HBX := Lib.hid hbx
      clear hbx
      go_region_held3 (fun w' => w'.cell? ⟨w.heap.size, 0, none⟩ = some (.int .i64 k) ∧ w'.cell? ⟨w.heap.size, 1, none⟩ = some (.int .i32 n) ∧ w'.cell? ⟨w.heap.size, 2, none⟩ = some (.bool true)) (first | exact num3 (num_box HBX.out) | go_keep | exact num3 (num_keep HBX.out hb2)) (first | (go_at_call 194; refine (HT.out _).mono ?_; rintro e w2 ⟨⟨x, rfl, hx⟩, hb2⟩))
      go_wp2
      go_ret
      exact new_two rfl (or_nat _ _) (u32_some _) (num_keep HBX.out hb2).2.2.2
    | false =>
      go_enter Tryz.func192, Tryz.ntmps192
      go_wp2_with fail
      have hbx : Below (w.heap.size + 1) (w.alloc (.cells #[.int .i64 k, .int .i32 n, .bool false] 150)) (w.alloc (.cells #[.int .i64 k, .int .i32 n, .bool false] 150)).drew := (Below.refl _ _).drew
      have HBX := Lib.hid hbx
      clear hbx
      go_region_held3 (fun w' => w'.cell? ⟨w.heap.size, 0, none⟩ = some (.int .i64 k) ∧ w'.cell? ⟨w.heap.size, 1, none⟩ = some (.int .i32 n) ∧ w'.cell? ⟨w.heap.size, 2, none⟩ = some (.bool false)) (first | exact num3 (num_box HBX.out) | go_keep | exact num3 (num_keep HBX.out hb2)) (first | (go_at_call 194; refine (HT.out _).mono ?_; rintro e w2 ⟨⟨x, rfl, hx⟩, hb2⟩))
      go_wp2
      go_ret
      exact new_two rfl (or_nat _ _) (u32_some _) (num_keep HBX.out hb2).2.2.2
end Go.Proofs.YtogdbfjagnbllaaGreatDoor
