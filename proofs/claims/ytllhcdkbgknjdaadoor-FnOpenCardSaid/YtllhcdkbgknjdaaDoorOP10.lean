/-
  Blocks of a store, as plain functions: a block of it, the store with another block.
  Whether a store is right, whether it has a block; new stores.
  New stores; a block's own cells; copies.
  Cells, stores are drawn.
  Unparse and ListOk of the program at items that have cells.
  ListOk of the program at a list that was parsed.
  slices.Grow of nil, slices.Concat of nil and a list of items.
  An editor that was opened: its items, whether it is right, its cells.
  laws.FnOpen answers true at every input, whatever impl.tags holds.
  A row whose condition lists what some package-level variables hold: the world's shape (which kinds the cells of the other variables have) is at hand in the walk too.
-/
import Derived.Test.YtllhcdkbgknjdaaDoorOP9
import Derived.Test.YtllhcdkbgknjdaaDoorOP1
import Derived.Laws.AppendOwnNone
import Derived.Test.YtllhcdkbgknjdaaDoorOP7
import Derived.Lib.AppendZerosOnto
import Derived.Lib.SliceRun
import Derived.HandedShaped
namespace Go.Proofs.YtllhcdkbgknjdaaDoor
open Go

def storeB (n : Nat) : Bool := decide (n % 64 = 0 ∧ n ≤ 768)
def hasB (n : Nat) (b : Int) : Bool := decide ((n % 64 = 0 ∧ n ≤ 768) ∧ 0 ≤ b ∧ b < ((n / 64 : Nat) : Int))
/-- Block b. -/
def blockL (l : List Nat) (b : Nat) : List Nat := (l.drop (64 * b)).take 64
/-- Cells with noughts behind them, as many as a block has. -/
def padL (cells : List Nat) : List Nat := cells ++ List.replicate (64 - cells.length) 0
/-- The store with i cells of block b as they are to be. -/
def putI (l : List Nat) (b : Nat) (cells : List Nat) (i : Nat) : List Nat := l.take (64 * b) ++ (padL cells).take i ++ l.drop (64 * b + i)
def putL (l : List Nat) (b : Nat) (cells : List Nat) : List Nat := putI l b cells 64
theorem hasB_some {n : Nat} {b : Int} (h : hasB n b = true) : ∃ k : Nat, b = k ∧ n % 64 = 0 ∧ n ≤ 768 ∧ 64 * k + 64 ≤ n := by
  obtain ⟨⟨h1, h2⟩, h3, h4⟩ := of_decide_eq_true h
  exact ⟨b.toNat, by omega, h1, h2, by omega⟩
theorem padL_len {cells : List Nat} (h : cells.length ≤ 64) : (padL cells).length = 64 := by unfold padL; rw [List.length_append, List.length_replicate]; omega
theorem padL_at {cells : List Nat} (h : cells.length ≤ 64) (i : Nat) (hi : i < 64) : (padL cells)[i]'(by rw [padL_len h]; exact hi) = if hc : i < cells.length then cells[i] else 0 := by
  unfold padL
  split
  · rw [List.getElem_append_left]
  · rw [List.getElem_append_right (by omega), List.getElem_replicate]
theorem padL_small {cells : List Nat} (h : ∀ c ∈ cells, c < 4294967296) : ∀ c ∈ padL cells, c < 4294967296 := by
  intro c hc
  rcases List.mem_append.1 hc with h1 | h1
  · exact h c h1
  · rw [(List.mem_replicate.1 h1).2]; decide
theorem putI_zero (l : List Nat) (b : Nat) (cells : List Nat) : putI l b cells 0 = l := by
  unfold putI
  rw [List.take_zero, List.append_nil, Nat.add_zero, List.take_append_drop]
theorem putI_len {l : List Nat} {b i : Nat} {cells : List Nat} (hb : 64 * b + 64 ≤ l.length) (hc : cells.length ≤ 64) (hi : i ≤ 64) : (putI l b cells i).length = l.length := by
  have h := padL_len hc
  unfold putI
  rw [List.length_append, List.length_append, List.length_take, List.length_take, List.length_drop, h]
  omega
/-- One cell more. -/
theorem putI_set {l : List Nat} {b i : Nat} {cells : List Nat} (hb : 64 * b + 64 ≤ l.length) (hc : cells.length ≤ 64) (hi : i < 64) : (putI l b cells i).set (64 * b + i) ((padL cells)[i]'(by rw [padL_len hc]; exact hi)) = putI l b cells (i + 1) := by
  have h := padL_len hc
  have h1 : (l.take (64 * b) ++ (padL cells).take i).length = 64 * b + i := by
    rw [List.length_append, List.length_take, List.length_take, h]; omega
  have h2 : l.drop (64 * b + i) = l[64 * b + i]'(by omega) :: l.drop (64 * b + i + 1) := List.drop_eq_getElem_cons (by omega)
  unfold putI
  rw [List.set_append_right _ _ (by rw [h1]; exact Nat.le_refl _), h1, Nat.sub_self, h2, List.set_cons_zero]
  have h3 : (padL cells).take (i + 1) = (padL cells).take i ++ [(padL cells)[i]'(by rw [h]; exact hi)] := List.take_succ_eq_append_getElem (by rw [h]; exact hi)
  rw [h3, ← List.append_assoc (l.take (64 * b)), List.append_assoc (l.take (64 * b) ++ (padL cells).take i) [_]]
  rfl
theorem putL_len {l : List Nat} {b : Nat} {cells : List Nat} (hb : 64 * b + 64 ≤ l.length) (hc : cells.length ≤ 64) : (putL l b cells).length = l.length := putI_len hb hc (Nat.le_refl _)
theorem putL_eq {l : List Nat} {b : Nat} {cells : List Nat} (hc : cells.length ≤ 64) : putL l b cells = l.take (64 * b) ++ padL cells ++ l.drop (64 * b + 64) := by
  unfold putL putI
  have h3 : (padL cells).take 64 = padL cells := List.take_of_length_le (by rw [padL_len hc]; exact Nat.le_refl _)
  rw [h3]
theorem putL_small {l : List Nat} {b : Nat} {cells : List Nat} (hl : ∀ c ∈ l, c < 4294967296) (hs : ∀ c ∈ cells, c < 4294967296) (hc : cells.length ≤ 64) : ∀ c ∈ putL l b cells, c < 4294967296 := by
  rw [putL_eq hc]
  intro c h
  rcases List.mem_append.1 h with h | h
  · rcases List.mem_append.1 h with h | h
    · exact hl c (List.mem_of_mem_take h)
    · exact padL_small hs c h
  · exact hl c (List.mem_of_mem_drop h)
theorem blockL_len {l : List Nat} {b : Nat} (hb : 64 * b + 64 ≤ l.length) : (blockL l b).length = 64 := by
  unfold blockL
  rw [List.length_take, List.length_drop]
  omega
/-- What is put into a block is there. -/
theorem block_put {l : List Nat} {b : Nat} {cells : List Nat} (hb : 64 * b + 64 ≤ l.length) (hc : cells.length ≤ 64) : blockL (putL l b cells) b = padL cells := by
  have h1 : (l.take (64 * b)).length = 64 * b := by rw [List.length_take]; omega
  rw [putL_eq hc]
  unfold blockL
  rw [List.append_assoc, List.drop_left' h1, List.take_left' (padL_len hc)]
/-- No other block changes. -/
theorem block_other {l : List Nat} {b k : Nat} {cells : List Nat} (hb : 64 * b + 64 ≤ l.length) (hc : cells.length ≤ 64) (hk : k ≠ b) : blockL (putL l b cells) k = blockL l k := by
  have hp := padL_len hc
  refine List.ext_getElem? fun j => ?_
  unfold blockL
  rw [List.getElem?_take, List.getElem?_take]
  by_cases hj : j < 64
  · rw [if_pos hj, if_pos hj, List.getElem?_drop, List.getElem?_drop, putL_eq hc]
    have h1 : (l.take (64 * b)).length = 64 * b := by rw [List.length_take]; omega
    rcases Nat.lt_or_ge k b with h | h
    · rw [List.append_assoc, List.getElem?_append_left (by omega), List.getElem?_take, if_pos (by omega)]
    · rw [List.getElem?_append_right (by rw [List.length_append, h1, hp]; omega), List.length_append, h1, hp, List.getElem?_drop]
      congr 1
      omega
  · rw [if_neg hj, if_neg hj]
end Go.Proofs.YtllhcdkbgknjdaaDoor

namespace Go.Proofs.YtllhcdkbgknjdaaDoor
open Go.RowKit Go

end Go.Proofs.YtllhcdkbgknjdaaDoor

namespace Go.Proofs.YtllhcdkbgknjdaaDoor
open Go.RowKit Go

def newL (n : Int) : List Nat := if 0 ≤ n ∧ n ≤ 12 then List.replicate (64 * n.toNat) 0 else []
/-- The zero store, stored into a result's cell. -/
theorem newr_none {r : Value → Value} {w w1 : World} (hb : Below w.heap.size w w1) : NewR r w [] (.returned (r (.slice none 0 0))) w1 := ⟨_, rfl, World.ownsRow_nil _ _ _ _, hb⟩
theorem zeros_u32 (n : Nat) : (madeCells (Value.int .u32 0).cells (n * 1)).toList = (List.replicate n 0).map u32v := by
  rw [Nat.mul_one]
  refine (toList_madeCells_one _ _).trans ?_
  simp [u32v]
end Go.Proofs.YtllhcdkbgknjdaaDoor

namespace Go.Proofs.YtllhcdkbgknjdaaDoor
open Go.RowKit Go

theorem own_cur {w w' : World} {g : Nat} {v : Value} {n : Nat} {xs : List Value} {base : Nat} {e : TypeId} (h : w.ownsRow base e 1 v n xs) (hg : g < base) (hk : w.grownBy w' (some g)) : w'.ownsRow base e 1 v n xs := h.kept hk (own_ne h hg)
/-- Cells are drawn: a new list, at most so many. -/
def DrewCells (g : Nat) (w : World) (e : Ending) (w' : World) : Prop := ∃ (v : Value) (ls : List Nat), e = .returned v ∧ ls.length ≤ 400 ∧ (∀ x ∈ ls, x < 4294967296) ∧ w'.ownsRow w.heap.size 51 1 v ls.length (ls.map u32v) ∧ CurAt w' g ∧ w.grownBy w' (some g)
/-- 'append(s, x...)', both lists the call's own, x nil or not. -/
theorem wpList_append_row {P : Program} {w : World} {ops : Array Oper} {rest : List Oper} {o : Oper} {a : Act} {Q : Exit → Act → World → Prop} (hgd : o.guard = none) (s x : Operand) (t : TypeId)
    (ho : o.op = .call { callee := .builtin .append, args := #[s, x], argTypes := #[t, t] })
    (base base2 : Nat) (e : TypeId) (i : TypeInfo) (z : Value) (bytes : Nat) (ht : P.underlying t = some (.slice e)) (hi : P.info? e = some i) (hz : i.zero = some z)
    (hsize : i.size = 1) (hby : i.bytes = bytes) (hzs : z.cells.size = 1)
    (v : Value) (n : Nat) (xs : List Value) (hs : a.eval s = v) (hown : w.ownsRow base e 1 v n xs)
    (u : Value) (m : Nat) (ys : List Value) (hx : a.eval x = u) (hown2 : w.ownsRow base2 e 1 u m ys) (h1 : ∀ u ∈ ys, u.oneCell' = true)
    (h63 : n + m ≤ maxLen) (hbytes : (n + m) * bytes ≤ 140737488355328) (hbase : base ≤ w.heap.size)
    (h : ∀ v' w', w'.ownsRow base e 1 v' (n + m) (xs ++ ys) → Hid (w.grownBy w' v.ownBlock) → wpList P ops Q rest (a.put o.dst v') w') : wpList P ops Q (o :: rest) a w := by
  rcases hown2.2 with ⟨hu, h0⟩ | ⟨g, cap, cur, hu, hb, hg, hn, hm, hsz, htk⟩
  · subst h0
    have hys : ys = [] := by have := hown2.1; exact List.eq_nil_of_length_eq_zero (by simpa using this)
    subst hys
    refine wpList_append_own_none hgd s x t ho base e i 1 ht hi v n xs hs hown (by rw [hx, hu]) (h v w (by simpa using hown) (World.grownBy.refl w _))
  · refine wpList_append_own w hgd s x t ho base e i z 1 bytes ht hi hz hsize hby hzs (by decide) v n xs hs hown ⟨g, 0, none⟩ m cap ys (by rw [hx, hu]) (by simpa using hown2.1) (World.ownsRow.cells hown2 (by rw [hu]; rfl)) h1 h63 hbytes hbase ?_
    intro v' w' h2 h3 _
    exact h v' w' h2 h3

theorem one_u32' (xs : List Nat) : ∀ u ∈ xs.map u32v, u.oneCell' = true := by
  intro u hu
  obtain ⟨_, _, rfl⟩ := List.mem_map.1 hu
  rfl
theorem small_app {a b : List Nat} (ha : ∀ x ∈ a, x < 4294967296) (hb : ∀ x ∈ b, x < 4294967296) : ∀ x ∈ a ++ b, x < 4294967296 := fun x hx => by
  rcases List.mem_append.1 hx with h | h
  · exact ha x h
  · exact hb x h
theorem small_one {y : Nat} (h : y < 4294967296) : ∀ x ∈ [y], x < 4294967296 := fun x hx => by rw [List.mem_singleton.1 hx]; exact h
/-- What is drawn so far. -/
def CellsAt (w : World) (g : Nat) (b : Nat) (v : Value) (wr : World) : Prop := ∃ ls : List Nat, ls.length ≤ b ∧ (∀ x ∈ ls, x < 4294967296) ∧ wr.ownsRow w.heap.size 51 1 v ls.length (ls.map u32v) ∧ CurAt wr g ∧ w.grownBy wr (some g)

set_option maxRecDepth 100000 in
set_option maxHeartbeats 8000000 in
theorem drawcells_any (g : Nat) (w : World) (hc : CurAt w g) : Calls Tryd.prog 28 #[.pointer (some ⟨g, 0, none⟩)] w (DrewCells g w) := by
  obtain ⟨i0, hinf, hz0, hz1, hz2⟩ := info_parts infoU32
  have hgl := cur_lt hc
  have HB0 := Lib.hid (below_any g 14 (by omega) (by omega) _ (hc.grown (World.grownBy_alloc w (.cells #[] 51) none) (fun _ h => by cases h)))
  have HGL := Lib.hid hgl
  clear hc hgl
  go_enter Tryd.func28, Tryd.ntmps28
  go_wp2_with fail
  refine HB0.out.mono ?_
  rintro e w1 ⟨y, rfl, ⟨hy0, hy1⟩, hc1, hg1⟩
  obtain ⟨n, rfl⟩ : ∃ n : Nat, y = n := ⟨y.toNat, by omega⟩
  have hn13 : n ≤ 13 := by have : (n : Int) ≤ 13 := by simpa using hy1
                           omega
  have HS : Hid (CellsAt w g (25 * 0) (.slice (some ⟨w.heap.size, 0, none⟩) 0 0) w1) := Lib.hid ⟨[], Nat.le_refl _, fun x h => absurd h List.not_mem_nil, own_cur (own_empty w 51) HGL.out hg1, hc1, only_trans (World.grownBy_alloc w _ _) hg1⟩
  clear hy0 hy1 hc1 hg1 HB0
  go_wp2_with fail
  go_loopw [3, 5] (fun vo vi wr => ∃ i : Nat, vi = .int .i64 i ∧ i ≤ n ∧ Hid (CellsAt w g (25 * i) vo wr)) (fun _ vi _ => n - (intOf vi).toNat)
  case atStart => exact ⟨0, rfl, by omega, HS⟩
  case round =>
    clear HS
    obtain ⟨i, rfl, hi, HR⟩ := hrel
    by_cases hp : i < n
    · have i2 : (i : Int) < (n : Int) := by omega
      obtain ⟨ls, hl, hsm, hown, hcr, hgr⟩ := HR.out
      have HD := Lib.hid (drawsome_any g wr hcr)
      have HO := Lib.hid hown
      have HG := Lib.hid hgr
      have HSM := Lib.hid hsm
      clear hown hcr hgr hsm HR
      go_wp2_with fail
      refine HD.out.mono ?_
      rintro e w2 ⟨it, rfl, hin, hsz, hc2, hg2⟩
      have HSC := Lib.hid (spec_cellsof it hin w2)
      have hcl := cellsOf_len it
      have ho2 := own_cur HO.out HGL.out hg2
      have HG2 := Lib.hid (only_trans HG.out hg2)
      have HO2 := Lib.hid ho2
      have HC2 := Lib.hid hc2
      obtain ⟨k, nm, nn, x, r⟩ := it
      clear hin hsz hc2 hg2 ho2 HD HO HG
      go_wp2_with fail
      refine HSC.out.mono ?_
      rintro e w3 ⟨u, zs, rfl, hzl, hzs, hown3, hb3⟩
      have ho3 := own_below HO2.out hb3 (Nat.le_refl _)
      have HZ := Lib.hid hown3
      have HC3 := Lib.hid (HC2.out.below hb3)
      have HB3 := Lib.hid hb3
      have hz24 : zs.length ≤ 24 := by omega
      have HZS := Lib.hid hzs
      have hsz3 : w.heap.size ≤ w3.heap.size := Nat.le_trans HG2.out.size hb3.size
      clear hown3 hb3 hzs HSC HO2 HC2 hcl hzl
      go_wp2_with (at_builtin; refine wpList_append_row rfl _ _ 24 rfl w.heap.size w2.heap.size 51 i0 (.int .u32 0) 4 Tryd.underlying24 hinf hz0 hz1 hz2 rfl _ ls.length _ rfl ho3 _ zs.length _ rfl HZ.out (one_u32' zs) (by unfold maxLen; omega) (by omega) hsz3 ?_; intro v1 w4 hown4 HGR4)
      have hown4' : w4.ownsRow w.heap.size 51 1 v1 (ls ++ zs).length ((ls ++ zs).map u32v) := by rw [List.length_append, List.map_append]; exact hown4
      have HO4 := Lib.hid hown4'
      have HC4 := Lib.hid (HC3.out.grown HGR4.out (fun k hk => by have := own_lt ho3 k hk; have := HGL.out; omega))
      have HG4 := Lib.hid (only_app (only_trans HG2.out (only_of_below HB3.out _)) HGR4.out (own_lt ho3))
      have hlz : (ls ++ zs).length ≤ 25 * i + 24 := by rw [List.length_append]; omega
      have HSM2 := Lib.hid (small_app HSM.out HZS.out)
      have HB9 := Lib.hid (below_any g 9 (by omega) (by omega) w4 HC4.out)
      clear hown4 hown4' HGR4 ho3 HC3 HB3 HG2 HSM HZS HZ HC4
      refine HB9.out.mono ?_
      rintro e w5 ⟨y, rfl, ⟨hy0, hy1⟩, hc5, hg5⟩
      have HO5 := Lib.hid (own_cur HO4.out HGL.out hg5)
      have HG5 := Lib.hid (only_trans HG4.out hg5)
      have HC5 := Lib.hid hc5
      have hs5 : w.heap.size ≤ w5.heap.size := HG5.out.size
      have hy2 : y ≤ 8 := by simpa using hy1
      have hll : (ls ++ zs).length = ls.length + zs.length := List.length_append
      clear hc5 hg5 HB9 HO4 HG4 hy1
      by_cases h0 : y = 0
      · have b0 : (y == 0) = true := by simpa using h0
        have HW := Lib.hid (word_any g w5 HC5.out)
        clear h0 hy0 hy2
        go_wp2_with fail
        refine HW.out.mono ?_
        rintro e w6 ⟨z, rfl, hz, hc6, hg6⟩
        have HO6 := Lib.hid (own_cur HO5.out HGL.out hg6)
        have HG6 := Lib.hid (only_trans HG5.out hg6)
        have HC6 := Lib.hid hc6
        have HZL := Lib.hid hz
        clear hc6 hg6 HW hz HO5 HG5 HC5
        go_wp2_with (at_builtin; refine wpList_append_own _ rfl _ _ 24 rfl w.heap.size 51 i0 (.int .u32 0) 1 4 Tryd.underlying24 hinf hz0 hz1 hz2 rfl (by decide) _ _ _ rfl (HO6.out.alloc _) ⟨w6.heap.size, 0, none⟩ 1 1 [.int .u32 (z : Int)] rfl rfl (cell_one_new _ _ _) (by simp [Value.oneCell']) (by unfold maxLen; omega) (by omega) (by have := HG6.out.size; simp; omega) ?_; intro v2 w9 hown9 hgr9 hif; clear hif)
        have HR9 : Hid (CellsAt w g (25 * (i + 1)) v2 w9) := Lib.hid ⟨ls ++ zs ++ [z], by rw [List.length_append, List.length_append]; simp; omega, small_app HSM2.out (small_one HZL.out), by rw [List.length_append (bs := [z]), List.map_append (l₂ := [z])]; exact hown9, (HC6.out.grown (World.grownBy_alloc w6 _ none) (fun _ h => by cases h)).grown hgr9 (fun k hk => by have := own_lt HO6.out k hk; have := HGL.out; omega), only_app (only_alloc HG6.out _) hgr9 (own_lt HO6.out)⟩
        clear hown9 hgr9
        go_roundw
        case rel => exact ⟨i + 1, by go_num, by omega, HR9⟩
        case measure => simp [intOf]; omega
      have b0 : (y == 0) = false := by simpa using h0
      by_cases h1 : y = 1
      · have b1 : (y == 1) = true := by simpa using h1
        clear h0 h1 hy0 hy2
        go_wp2_with (at_builtin; refine wpList_append_own _ rfl _ _ 24 rfl w.heap.size 51 i0 (.int .u32 0) 1 4 Tryd.underlying24 hinf hz0 hz1 hz2 rfl (by decide) _ _ _ rfl (HO5.out.alloc _) ⟨w5.heap.size, 0, none⟩ 1 1 [.int .u32 (0)] rfl rfl (cell_one_new _ _ _) (by simp [Value.oneCell']) (by unfold maxLen; omega) (by omega) (by have := HG5.out.size; simp; omega) ?_; intro v2 w9 hown9 hgr9 hif; clear hif)
        have HR9 : Hid (CellsAt w g (25 * (i + 1)) v2 w9) := Lib.hid ⟨ls ++ zs ++ [0], by rw [List.length_append, List.length_append]; simp; omega, small_app HSM2.out (small_one (by omega)), by rw [List.length_append (bs := [0]), List.map_append (l₂ := [0])]; exact hown9, (HC5.out.grown (World.grownBy_alloc w5 _ none) (fun _ h => by cases h)).grown hgr9 (fun k hk => by have := own_lt HO5.out k hk; have := HGL.out; omega), only_app (only_alloc HG5.out _) hgr9 (own_lt HO5.out)⟩
        clear hown9 hgr9
        go_roundw
        case rel => exact ⟨i + 1, by go_num, by omega, HR9⟩
        case measure => simp [intOf]; omega
      have b1 : (y == 1) = false := by simpa using h1
      by_cases h2 : y = 2
      · have b2 : (y == 2) = true := by simpa using h2
        have HW := Lib.hid (below_any g 4096 (by omega) (by omega) w5 HC5.out)
        clear h0 h1 h2 hy0 hy2
        go_wp2_with fail
        refine HW.out.mono ?_
        rintro e w6 ⟨z, rfl, ⟨hz0', hz1'⟩, hc6, hg6⟩
        have hz2' : z ≤ 4095 := by simpa using hz1'
        obtain ⟨m, rfl⟩ : ∃ m : Nat, z = m := ⟨z.toNat, by omega⟩
        have HO6 := Lib.hid (own_cur HO5.out HGL.out hg6)
        have HG6 := Lib.hid (only_trans HG5.out hg6)
        have HC6 := Lib.hid hc6
        clear hc6 hg6 HW hz1' HO5 HG5 HC5
        go_wp2_with (at_builtin; refine wpList_append_own _ rfl _ _ 24 rfl w.heap.size 51 i0 (.int .u32 0) 1 4 Tryd.underlying24 hinf hz0 hz1 hz2 rfl (by decide) _ _ _ rfl (HO6.out.alloc _) ⟨w6.heap.size, 0, none⟩ 1 1 [.int .u32 ((m : Int) * 16)] rfl rfl (cell_one_new _ _ _) (by simp [Value.oneCell']) (by unfold maxLen; omega) (by omega) (by have := HG6.out.size; simp; omega) ?_; intro v2 w9 hown9 hgr9 hif; clear hif)
        have HR9 : Hid (CellsAt w g (25 * (i + 1)) v2 w9) := Lib.hid ⟨ls ++ zs ++ [m * 16], by rw [List.length_append, List.length_append]; simp; omega, small_app HSM2.out (small_one (by omega)), by rw [List.length_append (bs := [m * 16]), List.map_append (l₂ := [m * 16])]; exact hown9, (HC6.out.grown (World.grownBy_alloc w6 _ none) (fun _ h => by cases h)).grown hgr9 (fun k hk => by have := own_lt HO6.out k hk; have := HGL.out; omega), only_app (only_alloc HG6.out _) hgr9 (own_lt HO6.out)⟩
        clear hown9 hgr9
        go_roundw
        case rel => exact ⟨i + 1, by go_num, by omega, HR9⟩
        case measure => simp [intOf]; omega
      have b2 : (y == 2) = false := by simpa using h2
      by_cases h3 : y = 3
      · have b3 : (y == 3) = true := by simpa using h3
        have hg5 : g < w5.heap.size := by have := HGL.out; omega
        have HP := Lib.hid (pickint_any g w5.heap.size [2, 18, 5, 34, 12] _ (HC5.out.grown (World.grownBy_alloc w5 _ none) (fun _ h => by cases h)) (ints_new w5 3 [2, 18, 5, 34, 12]) (by omega) (by simp) (by decide) (by decide))
        clear h0 h1 h2 h3 hy0 hy2 hg5
        go_wp2_with fail
        refine HP.out.mono ?_
        rintro e w6 ⟨z, rfl, hz, hc6, hg6⟩
        obtain ⟨m, rfl, hm⟩ : ∃ m : Nat, z = m ∧ m ≤ 34 := by
          have hz : z = 2 ∨ z = 18 ∨ z = 5 ∨ z = 34 ∨ z = 12 := by simpa using hz
          exact ⟨z.toNat, by omega, by omega⟩
        have HO6 := Lib.hid (own_cur (HO5.out.alloc (.cells _ 3)) HGL.out hg6)
        have HG6 := Lib.hid (only_trans (only_alloc HG5.out _) hg6)
        have HC6 := Lib.hid hc6
        clear hc6 hg6 HP hz HO5 HG5 HC5
        go_wp2_with (at_builtin; refine wpList_append_own _ rfl _ _ 24 rfl w.heap.size 51 i0 (.int .u32 0) 1 4 Tryd.underlying24 hinf hz0 hz1 hz2 rfl (by decide) _ _ _ rfl (HO6.out.alloc _) ⟨w6.heap.size, 0, none⟩ 1 1 [.int .u32 (m : Int)] rfl rfl (cell_one_new _ _ _) (by simp [Value.oneCell']) (by unfold maxLen; omega) (by omega) (by have := HG6.out.size; simp; omega) ?_; intro v2 w9 hown9 hgr9 hif; clear hif)
        have HR9 : Hid (CellsAt w g (25 * (i + 1)) v2 w9) := Lib.hid ⟨ls ++ zs ++ [m], by rw [List.length_append, List.length_append]; simp; omega, small_app HSM2.out (small_one (by omega)), by rw [List.length_append (bs := [m]), List.map_append (l₂ := [m])]; exact hown9, (HC6.out.grown (World.grownBy_alloc w6 _ none) (fun _ h => by cases h)).grown hgr9 (fun k hk => by have := own_lt HO6.out k hk; have := HGL.out; omega), only_app (only_alloc HG6.out _) hgr9 (own_lt HO6.out)⟩
        clear hown9 hgr9
        go_roundw
        case rel => exact ⟨i + 1, by go_num, by omega, HR9⟩
        case measure => simp [intOf]; omega
      have b3 : (y == 3) = false := by simpa using h3
      have HR9 : Hid (CellsAt w g (25 * (i + 1)) v1 w5) := Lib.hid ⟨ls ++ zs, by omega, HSM2.out, HO5.out, HC5.out, HG5.out⟩
      clear h0 h1 h2 h3 hy0 hy2 HO5 HG5 HC5
      go_wp2_with fail
      go_roundw
      case rel => exact ⟨i + 1, by go_num, by omega, HR9⟩
      case measure => simp [intOf]; omega
    · obtain rfl : i = n := by omega
      obtain ⟨ls, hl, hsm, hown, hcr, hgr⟩ := HR.out
      by_cases h64 : 64 < ls.length
      · have j64 : (64 : Int) < (ls.length : Int) := by omega
        have HON := Lib.hid (once_any g 6 (by decide) wr hcr)
        obtain ⟨g2, cap, cur, rfl, hrow⟩ := own_row hown (by omega)
        have hcp := hrow.le
        have jc : (64 : Int) ≤ (cap : Int) := by omega
        have HO := Lib.hid hown
        have HG := Lib.hid hgr
        have HSM := Lib.hid hsm
        clear hown hcr hgr hsm HR hrow
        go_wp2_with fail
        refine HON.out.mono ?_
        rintro e w2 ⟨b, rfl, hc2, hg2⟩
        have HO2 := Lib.hid (own_cur HO.out HGL.out hg2)
        have HC2 := Lib.hid hc2
        have HG2 := Lib.hid (only_trans HG.out hg2)
        clear hc2 hg2 HON HO HG
        cases b with
        | true =>
          go_wp2_with fail
          go_ret
          exact ⟨_, ls, rfl, by omega, HSM.out, HO2.out, HC2.out, HG2.out⟩
        | false =>
          go_wp2_with fail
          go_ret
          have hl64 : (ls.take 64).length = 64 := by rw [List.length_take]; omega
          obtain ⟨g3, cap3, cur3, hv, hrow⟩ := own_row HO2.out (by omega)
          injection hv with hv1 hv2 hv3
          injection hv1 with hv1
          injection hv1 with hv1
          subst hv1 hv3
          refine ⟨.slice (some ⟨g2, 0, none⟩) 64 cap, ls.take 64, rfl, by omega, fun x hx => HSM.out x (List.mem_of_mem_take hx), ?_, HC2.out, HG2.out⟩
          rw [hl64]
          exact RowIs.own ⟨hrow.base, hrow.row, by omega, hrow.max, hrow.len, by rw [List.map_take, ← hrow.take, List.take_take]; congr 1; omega⟩ (by rw [List.length_map]; exact hl64)
      · have j64 : (ls.length : Int) ≤ 64 := by omega
        obtain ⟨A, c, rfl⟩ := own_form hown
        have HO := Lib.hid hown
        have HG := Lib.hid hgr
        have HSM := Lib.hid hsm
        have HC := Lib.hid hcr
        clear hown hcr hgr hsm HR
        go_wp2_with fail
        go_ret
        exact ⟨_, ls, rfl, by omega, HSM.out, HO.out, HC.out, HG.out⟩
end Go.Proofs.YtllhcdkbgknjdaaDoor

namespace Go.Proofs.YtllhcdkbgknjdaaDoor
open Go.RowKit Go

/-- The cells of one item of a list, as the walk spells them. -/
theorem RdT.item {w : World} {A : Option Addr} {n cap : Nat} {xs : List It} (h : RdT w (.slice A n cap) xs) {i : Nat} (hi : i < xs.length) : ∃ a, A = Option.some a ∧ a.block < w.heap.size ∧ w.cell? (a.add (i * 5)) = Option.some (.int .i64 xs[i].kind) ∧ w.cell? ⟨(a.add (i * 5)).block, (a.add (i * 5)).off + 1, none⟩ = Option.some (.string xs[i].name) ∧ w.cell? ⟨(a.add (i * 5)).block, (a.add (i * 5)).off + 2, none⟩ = Option.some (.int .i32 xs[i].n) ∧ w.cell? ⟨(a.add (i * 5)).block, (a.add (i * 5)).off + 3, none⟩ = Option.some (.bool xs[i].hex) ∧ w.cell? ⟨(a.add (i * 5)).block, (a.add (i * 5)).off + 4, none⟩ = Option.some (.int .u32 (xs[i].raw : Int)) := by
  obtain ⟨A3, c4, hv4, -, -, hc4⟩ := h
  injection hv4 with e1 e2 e3
  subst e1 e3
  obtain ⟨a, rfl, hb, q0, q1, q2, q3, q4⟩ := hc4 i hi
  exact ⟨a, rfl, hb, q0, q1, q2, q3, q4⟩
/-- Items that have cells, of at most so many in all. -/
structure FitsT (C : It → List Nat) (l : List It) : Prop where
  inn : ∀ it ∈ l, ItIn it
  some : ∀ it ∈ l, C it ≠ []
  len : (l.flatMap C).length ≤ 64
theorem flat_take {C : It → List Nat} {l : List It} {i : Nat} (h : i < l.length) : (l.take (i + 1)).flatMap C = (l.take i).flatMap C ++ C l[i] := by
  rw [List.take_succ_eq_append_getElem h, List.flatMap_append]
  simp
theorem flat_le {C : It → List Nat} (l : List It) (i : Nat) : ((l.take i).flatMap C).length ≤ (l.flatMap C).length := by
  have h := congrArg List.length (congrArg (List.flatMap C) (List.take_append_drop i l))
  rw [List.flatMap_append, List.length_append] at h
  omega
theorem FitsT.count {C : It → List Nat} : ∀ {l : List It}, (∀ it ∈ l, C it ≠ []) → l.length ≤ (l.flatMap C).length
  | [], _ => Nat.zero_le _
  | a :: l, h => by
    have h1 := FitsT.count (l := l) fun it hit => h it (List.mem_cons_of_mem _ hit)
    have h2 := List.length_pos_iff.2 (h a (by simp))
    rw [List.flatMap_cons, List.length_append, List.length_cons]
    omega

set_option maxRecDepth 100000 in
set_option maxHeartbeats 8000000 in
theorem impl_unparse (tg : Nat → Nat) (v : Value) (l : List It) (hf : FitsT (cellsT tg) l) (w : World) (hv : RdT w v l) (hcs : TabsT tg w) :
    Calls Tryd.prog 34 #[v] w fun e w' => ∃ u, e = .returned (.tuple #[u, .bool true]) ∧ w'.ownsRow w.heap.size 51 1 u (l.flatMap (cellsT tg)).length ((l.flatMap (cellsT tg)).map u32v) ∧ Below w.heap.size w w' := by
  obtain ⟨i0, hi0, hz0, hz1, hz2⟩ := info_parts infoU32
  have HF := Lib.hid hf
  have HV := Lib.hid hv
  have hl64 := Nat.le_trans (FitsT.count hf.some) hf.len
  obtain ⟨A, cap, rfl, hl62, hcap, -⟩ := hv
  have HCS := Lib.hid hcs
  clear hcs hf hl62 hcap
  go_enter Tryd.func34, Tryd.ntmps34
  go_wp2_with fail
  go_loopw [4, 10] (fun vo vi wr => ∃ i : Nat, vi = .int .i64 i ∧ i ≤ l.length ∧ wr.ownsRow w.heap.size 51 1 vo ((l.take i).flatMap (cellsT tg)).length (((l.take i).flatMap (cellsT tg)).map u32v) ∧ Below w.heap.size w wr) (fun _ vi _ => l.length - (intOf vi).toNat)
  case atStart => exact ⟨0, rfl, by omega, World.ownsRow_nil _ _ _ _, Below.refl _ _⟩
  case round =>
    obtain ⟨i, rfl, hi, hown, hB⟩ := hrel
    by_cases hp : i < l.length
    · obtain ⟨a, rfl, -, q0, q1, q2, q3, q4⟩ := (HV.out.below hB).item hp
      have HT := Lib.hid (flat_take (C := cellsT tg) hp)
      have hle := flat_le (C := cellsT tg) l (i + 1)
      have h64 := HF.out.len
      have HC := Lib.hid (fun W (hb : Below w.heap.size w W) => impl_cellsT tg l[i] (HF.out.inn _ (List.getElem_mem hp)) (HF.out.some _ (List.getElem_mem hp)) W (HCS.out.below hb))
      have hne := List.length_pos_iff.2 (HF.out.some _ (List.getElem_mem hp))
      rw [HT.out, List.length_append] at hle
      obtain ⟨cs, hcc⟩ : ∃ cs, cellsT tg l[i] = cs := ⟨_, rfl⟩
      obtain ⟨pre, hpre⟩ : ∃ pre, (l.take i).flatMap (cellsT tg) = pre := ⟨_, rfl⟩
      rw [hcc] at HT HC hle hne
      rw [hpre] at hle HT hown
      obtain ⟨it, hit⟩ : ∃ it, l[i] = it := ⟨_, rfl⟩
      rw [hit] at q0 q1 q2 q3 q4 HC
      obtain ⟨kd, nm, n, hx, r⟩ := it
      have i2 : (i : Int) < (l.length : Int) := by omega
      have hcz : cs.length ≤ 64 := by omega
      have hpz : pre.length + cs.length ≤ 64 := by omega
      obtain ⟨A5, c5, rfl⟩ := own_form hown
      have HB := Lib.hid hB
      have HO := Lib.hid hown
      clear hcc hpre hit hB hown h64 hle
      go_wp2_with fail
      refine (HC.out _ (HB.out.alloc HB.out.size _)).mono ?_
      rintro e w1 ⟨u, rfl, hown1, hb1⟩
      have HB1 := Lib.hid ((HB.out.alloc HB.out.size _).trans (hb1.mono (Nat.le_trans HB.out.size (by simp))))
      have HO1 := Lib.hid (ownB (HO.out.alloc _) hb1)
      have HU := Lib.hid hown1
      obtain ⟨A6, c6, rfl⟩ := own_form hown1
      have hb1s : w.heap.size ≤ w1.heap.size := HB1.out.size
      have hcn : ((cs.length : Int) == 0) = false := beq_eq_false_iff_ne.2 (by omega)
      have hgt : ¬ 64 < pre.length + cs.length := by omega
      have hdc : decide (64 < pre.length + cs.length) = false := decide_eq_false hgt
      have hgi : (pre.length : Int) + (cs.length : Int) ≤ 64 := by omega
      clear hown1 hb1 HC HO HB q0 q1 q2 q3 q4
      go_wp2_with (at_builtin; refine wpList_append_row rfl _ _ 24 rfl w.heap.size _ 51 i0 (.int .u32 0) 4 Tryd.underlying24 hi0 hz0 hz1 hz2 rfl _ pre.length _ rfl HO1.out _ cs.length _ rfl HU.out (one_u32' cs) (by unfold maxLen; omega) (by omega) hb1s ?_; intro v1 w4 hown4 HGR4)
      have HO4 : Hid (w4.ownsRow w.heap.size 51 1 v1 (pre ++ cs).length ((pre ++ cs).map u32v)) := Lib.hid (by rw [List.length_append, List.map_append]; exact hown4)
      have HB4 := Lib.hid (HB1.out.grown HGR4.out hb1s (own_lt HO1.out))
      clear hown4
      go_roundw
      case rel => exact ⟨i + 1, by go_num, by omega, by rw [HT.out]; exact HO4.out, HB4.out⟩
      case measure => simp [intOf]; omega
    · obtain rfl : i = l.length := by omega
      rw [List.take_length] at hown
      have HO := Lib.hid hown
      have HB := Lib.hid hB
      clear hown hB
      go_wp2_with fail
      go_ret2
      exact ⟨_, rfl, HO.out, HB.out⟩
end Go.Proofs.YtllhcdkbgknjdaaDoor

namespace Go.Proofs.YtllhcdkbgknjdaaDoor
open Go.RowKit Go

theorem RdC.of_own {w : World} {base : Nat} {v : Value} {xs : List Nat} (h : w.ownsRow base 51 1 v xs.length (xs.map u32v)) (hl : xs.length ≤ 4611686018427387904) : RdC w v xs := by
  refine ⟨RdN.of_own h hl, ?_⟩
  rcases h.2 with ⟨rfl, h0⟩ | ⟨g, cap, cur, rfl, hb, hg, hn, hm, hsz, ht⟩
  · exact ⟨none, 0, by rw [h0], by omega⟩
  · exact ⟨_, cap, rfl, hn⟩
theorem own_small {w : World} {base : Nat} {e : TypeId} {v : Value} {xs : List Nat} (_ : w.ownsRow base e 1 v xs.length (xs.map u32v)) (h : ∀ x ∈ xs, x < 4294967296) : ∀ x ∈ xs, x < 4294967296 := h

set_option maxRecDepth 100000 in
set_option maxHeartbeats 4000000 in
theorem eqitems_same (a b : Value) (xs : List It) (w : World) (ha : RdT w a xs) (hb : RdT w b xs) :
    Calls Tryd.prog 52 #[a, b] w fun e w' => e = .returned (.bool true) ∧ ∃ d, w' = w.drewN d := by
  have HA := Lib.hid ha
  have HB := Lib.hid hb
  obtain ⟨A, ca, rfl, hla, -, -⟩ := ha
  obtain ⟨B, cb, rfl, -, -, -⟩ := hb
  have hl' : ((xs.length : Int) != (xs.length : Int)) = false := by simp
  go_enter Tryd.func52, Tryd.ntmps52
  go_wp2
  go_loopw [13] (fun vi wr => ∃ i d : Nat, vi = .int .i64 i ∧ i ≤ xs.length ∧ Hid (wr = w.drewN d)) (fun vi _ => xs.length - (intOf vi).toNat)
  case atStart => exact ⟨0, 0, rfl, by omega, by rw [World.drewN_zero]; rfl⟩
  case round =>
    obtain ⟨i, d, rfl, hi, HW⟩ := hrel
    by_cases hp : i < xs.length
    · have hwr := HW.out
      have hbw : Below w.heap.size w wr := by rw [hwr]; exact below_drewN (Below.refl _ _) d
      obtain ⟨ga, rfl, -, q0, q1, q2, q3, q4⟩ := (HA.out.below hbw).item hp
      obtain ⟨gb, rfl, -, p0, p1, p2, p3, p4⟩ := (HB.out.below hbw).item hp
      have hq : ∀ W : World, (binOp .neq 57 (itVal xs[i]) (itVal xs[i])).run Tryd.prog W = .ok (.bool false) W := fun W => by
        have h := item_neq W xs[i] xs[i]
        rw [decide_eq_true rfl] at h
        exact h
      obtain ⟨it, hit⟩ : ∃ it, xs[i] = it := ⟨_, rfl⟩
      rw [hit] at q0 q1 q2 q3 q4 p0 p1 p2 p3 p4 hq
      obtain ⟨kd, nm, n, hx, r⟩ := it
      have i1 : (0 : Int) ≤ (i : Int) := by omega
      have i2 : (i : Int) < (xs.length : Int) := by omega
      clear hit hbw hwr
      go_wp2
      go_quiet (fail)
      go_wp2
      go_roundw
      case rel => exact ⟨i + 1, _, by go_num, by omega, by rw [HW.out, World.drewN_drewN]; rfl⟩
      case measure => simp [intOf]; omega
    · go_wp2
      go_ret
      exact ⟨rfl, d, HW.out⟩

set_option maxRecDepth 100000 in
set_option maxHeartbeats 4000000 in
theorem impl_listok (tg : Nat → Nat) (v : Value) (l : List It) (hf : FitsT (cellsT tg) l) (hp : Parses (cellsT tg) (l.flatMap (cellsT tg)) l) (ht : trimI l = l) (hs : ∀ c ∈ l.flatMap (cellsT tg), c < 4294967296) (w : World) (hv : RdT w v l) (hcs : TabsT tg w) :
    Calls Tryd.prog 31 #[v] w fun e w' => e = .returned (.bool true) ∧ Below w.heap.size w w' := by
  have HU := Lib.hid (impl_unparse tg v l hf w hv hcs)
  have hlen := hf.len
  have hcount := FitsT.count hf.some
  have HP := Lib.hid (fun W (hb : Below w.heap.size w W) u (hu : RdC W u (l.flatMap (cellsT tg))) => impl_parse tg u _ hs hf.len W hu (hcs.below hb) l hp)
  rw [ht] at HP
  have HV := Lib.hid hv
  obtain ⟨A, cap, rfl, -, -, -⟩ := hv
  obtain ⟨cs, hcc⟩ : ∃ cs, l.flatMap (cellsT tg) = cs := ⟨_, rfl⟩
  rw [hcc] at HU HP hlen hcount
  clear hcs hf hp ht hs hcc
  go_enter Tryd.func31, Tryd.ntmps31
  go_wp2_with fail
  refine HU.out.mono ?_
  rintro e w1 ⟨u, rfl, hown, hb1⟩
  have HP1 := Lib.hid (HP.out w1 hb1 u (RdC.of_own hown (by omega)))
  have HB1 := Lib.hid hb1
  clear hown hb1 HU HP
  go_wp2_with fail
  refine HP1.out.mono ?_
  rintro e w2 ⟨v2, rfl, hown2, hb2⟩
  have HB2 := Lib.hid (HB1.out.trans (hb2.mono HB1.out.size))
  have HE := Lib.hid (eqitems_same v2 _ l w2 (RdT.of_own hown2 (by omega)) (HV.out.below HB2.out))
  clear hown2 hb2 HP1 HB1
  go_wp2_with fail
  refine HE.out.mono ?_
  rintro e w3 ⟨rfl, d, rfl⟩
  go_wp2_with fail
  go_ret
  exact ⟨rfl, below_drewN HB2.out d⟩
end Go.Proofs.YtllhcdkbgknjdaaDoor

namespace Go.Proofs.YtllhcdkbgknjdaaDoor
open Go.RowKit Go

/-- Room for items, none of them there. -/
def Room (w : World) (e : Ending) (w' : World) : Prop := ∃ v, e = .returned v ∧ w'.ownsRow w.heap.size 57 5 v 0 [] ∧ Below w.heap.size w w'
set_option maxRecDepth 100000 in
set_option maxHeartbeats 4000000 in
theorem grow_items (n : Nat) (hn : n ≤ 64) (w : World) : Calls Tryd.prog 71 #[.slice none 0 0, .int .i64 (n : Int)] w (Room w) := by
  obtain ⟨i0, hi0, hz0, hz1, hz2⟩ := info_parts infoIt
  by_cases h0 : n = 0
  · subst h0
    clear hi0 hz0 hz1 hz2
    go_enter Tryd.func71, Tryd.ntmps71
    go_wp2_with fail
    go_ret
    exact ⟨_, rfl, World.ownsRow_nil _ _ _ _, Below.refl _ _⟩
  · have hold : (Builtin.firstCells i0.size 0 (.slice none 0 0)).run Tryd.prog w.drew = .ok ([] : List Value).toArray w.drew := run_firstCells_none w.drew i0.size 0 0 0
    have hrz := fun ty => Lib.run_append_grow_zeros (P := Tryd.prog) w 26 3 ty 57 i0 (itA 0 ⟨#[]⟩ 0 false 0) .i64 .i64 Tryd.underlying26 Tryd.underlying3 hi0 hz0 none 0 0 [] hold n (by omega) (by omega) (by omega) (by omega) (by rw [hz2]; omega) (growslice_fits (need := 0 + n) (old := 0) (by omega) (by rw [hz2]; omega))
    have hG1 := grownCap_ge w (0 + n) 0 57
    have hG2 := grownCap_le_maxLen w (0 + n) 0 57 (by unfold maxLen; omega)
    obtain ⟨G, hG⟩ : ∃ G, grownCap w (0 + n) 0 57 = G := ⟨_, rfl⟩
    rw [hG] at hrz hG1 hG2
    have hzc : (itA 0 ⟨#[]⟩ 0 false 0).cells.size = 5 := rfl
    obtain ⟨cur, hcur⟩ : ∃ cur, (([] : List Value).toArray ++ Builtin.zeroCells (itA 0 ⟨#[]⟩ 0 false 0).cells n ++ Builtin.zeroCells (itA 0 ⟨#[]⟩ 0 false 0).cells (G - (0 + n))) = cur := ⟨_, rfl⟩
    rw [hcur] at hrz
    have hcs : cur.size = G * 5 := by
      rw [← hcur, Array.size_append, Array.size_append, size_zeroCells, size_zeroCells, hzc]
      simp
      omega
    have HO : Hid (Room w (.returned (.slice (some ⟨w.heap.size, 0, none⟩) 0 G)) (w.drew.alloc (.cells cur 57))) := Lib.hid ⟨_, rfl, ⟨rfl, .inr ⟨w.heap.size, G, cur, rfl, Nat.le_refl _, heap_alloc_new w.drew _, Nat.zero_le _, hG2, hcs, by simp⟩⟩, (below_drewN (Below.refl _ _) 1).alloc (Nat.le_refl _) _⟩
    have h0i : (0 : Int) < (n : Int) := by omega
    have hGi : (0 : Int) ≤ (G : Int) := by omega
    rw [Nat.zero_add] at hrz
    clear hcur hold hi0 hz0 hz1 hz2 hG hG1 hG2 hcs hzc h0
    go_enter Tryd.func71, Tryd.ntmps71
    go_wp2_with (at_builtin; refine Lib.wpList_append_run _ rfl _ _ _ _ rfl _ _ rfl rfl _ _ (hrz _) ?_)
    all_goals (go_ret; exact HO.out)

set_option maxRecDepth 100000 in
set_option maxHeartbeats 8000000 in
theorem concat_items (g : Nat) (v : Value) (xs : List It) (hl : xs.length ≤ 64) (w : World) (h0 : w.cell? ⟨g, 0, none⟩ = some (.slice none 0 0)) (h1 : w.cell? ⟨g, 1, none⟩ = some v) (b0 : Nat) (hv : w.ownsRow b0 57 5 v xs.length (itv xs)) :
    Calls Tryd.prog 53 #[.slice (some ⟨g, 0, none⟩) 2 2] w (NewT w xs) := by
  obtain ⟨i0, hi0, hz0, hz1, hz2⟩ := info_parts infoIt
  have HG := Lib.hid (fun W => grow_items xs.length hl W)
  have hgl : g < w.heap.size := lt_of_cell_tab h0
  have HV := Lib.hid hv
  have HH0 := Lib.hid h0
  have HH1 := Lib.hid h1
  have hi64 : (xs.length : Int) ≤ 64 := by omega
  obtain ⟨A, cap, rfl⟩ : ∃ A cap, v = .slice A xs.length cap := own_slice hv
  clear hv
  go_enter Tryd.func53, Tryd.ntmps53
  go_wp2_with fail
  go_loop [3, 11] (fun vs vi => (vi = .int .i64 0 ∧ vs = .int .i64 0) ∨ (vi = .int .i64 1 ∧ vs = .int .i64 0) ∨ (vi = .int .i64 2 ∧ vs = .int .i64 (xs.length : Int))) (fun _ vi => 2 - (intOf vi).toNat)
  case atStart => exact .inl ⟨rfl, rfl⟩
  case round =>
    rcases hrel with ⟨rfl, rfl⟩ | ⟨rfl, rfl⟩ | ⟨rfl, rfl⟩
    · go_wp2_with fail
      go_round
      case rel => exact .inr (.inl ⟨by go_num, by go_num⟩)
      case measure => simp [intOf]
    · go_wp2_with fail
      go_round
      case rel => exact .inr (.inr ⟨by go_num, by go_num⟩)
      case measure => simp [intOf]
    · go_wp2_with fail
      refine (HG.out _).mono ?_
      rintro e w1 ⟨r, rfl, hown, hb1⟩
      have HO := Lib.hid hown
      have HB := Lib.hid hb1
      clear hown hb1 HG h0 h1
      go_wp2_with fail
      go_loopw [6, 27] (fun vo vi wr => Below w.heap.size w wr ∧ ((vi = .int .i64 0 ∧ wr.ownsRow w.heap.size 57 5 vo 0 []) ∨ (vi = .int .i64 1 ∧ wr.ownsRow w.heap.size 57 5 vo 0 []) ∨ (vi = .int .i64 2 ∧ wr.ownsRow w.heap.size 57 5 vo xs.length (itv xs)))) (fun _ vi _ => 2 - (intOf vi).toNat)
      case atStart => exact ⟨HB.out, .inl ⟨rfl, HO.out⟩⟩
      case round =>
        obtain ⟨hB, hrel⟩ := hrel
        have c0 := (hB.cell (p := ⟨g, 0, none⟩) hgl).trans HH0.out
        have c1 := (hB.cell (p := ⟨g, 1, none⟩) hgl).trans HH1.out
        have hbs := hB.size
        have HB2 := Lib.hid hB
        rcases hrel with ⟨rfl, hown⟩ | ⟨rfl, hown⟩ | ⟨rfl, hown⟩
        · have HO2 := Lib.hid hown
          clear hown hB
          go_wp2_with (at_builtin; refine wpList_append_own_none rfl _ _ 26 rfl w.heap.size 57 i0 5 Tryd.underlying26 hi0 _ 0 _ rfl HO2.out rfl ?_)
          go_roundw
          case rel => exact ⟨HB2.out, .inr (.inl ⟨by go_num, HO2.out⟩)⟩
          case measure => simp [intOf]
        · have hvw := ownB HV.out (hB.mono (Nat.le_refl _))
          have HO2 := Lib.hid hown
          clear hown hB
          rcases hvw.2 with ⟨hn, hz⟩ | ⟨g3, c3, cur, hn, -⟩
          · injection hn with e1 e2 e3
            subst e1 e3
            have hxs : xs = [] := List.eq_nil_of_length_eq_zero hz
            subst hxs
            go_wp2_with (at_builtin; refine wpList_append_own_none rfl _ _ 26 rfl w.heap.size 57 i0 5 Tryd.underlying26 hi0 _ 0 _ rfl HO2.out rfl ?_)
            go_roundw
            case rel => exact ⟨_, _, _, _, _, _, _, _, _, _, ⟨HB2.out, .inr (.inr ⟨rfl, HO2.out⟩)⟩, rfl⟩
            case measure => simp [intOf]
          · injection hn with e1 e2 e3
            subst e1 e3
            have HW := Lib.hid (World.ownsRow.cells hvw rfl)
            have HL := Lib.hid (itv_len xs)
            clear hvw
            go_wp2_with (at_builtin; refine wpList_append_own _ rfl _ _ 26 rfl w.heap.size 57 i0 (itA 0 ⟨#[]⟩ 0 false 0) 5 40 Tryd.underlying26 hi0 hz0 hz1 hz2 rfl (by decide) _ 0 _ rfl HO2.out ⟨g3, 0, none⟩ xs.length cap (itv xs) rfl HL.out HW.out (itv_one _) (by unfold maxLen; omega) (by omega) hbs ?_; intro v' w2 hown' hgrow hif; clear hif)
            have HO3 : Hid (w2.ownsRow w.heap.size 57 5 v' xs.length (itv xs)) := Lib.hid (by simpa using hown')
            have HB3 := Lib.hid (HB2.out.grown hgrow hbs (own_lt HO2.out))
            clear hown' hgrow
            go_roundw
            case rel => exact ⟨HB3.out, .inr (.inr ⟨by go_num, HO3.out⟩)⟩
            case measure => simp [intOf]
        · have HO2 := Lib.hid hown
          clear hown hB
          go_wp2_with fail
          go_ret
          exact ⟨_, rfl, HO2.out, HB2.out⟩
end Go.Proofs.YtllhcdkbgknjdaaDoor

namespace Go.Proofs.YtllhcdkbgknjdaaDoor
open Go.RowKit Go

/-- An editor of which only Right has items. -/
abbrev edA (v : Value) : Value := .agg #[.slice none 0 0, v, .slice none 0 0]
theorem ed_box {w w2 : World} {v : Value} {t : TypeId} (h : Below (w.heap.size + 1) (w.alloc (.cells #[.slice none 0 0, v, .slice none 0 0] t)) w2) :
    w2.cell? ⟨w.heap.size, 0, none⟩ = some (.slice none 0 0) ∧ w2.cell? ⟨w.heap.size, 1, none⟩ = some v ∧ w2.cell? ⟨w.heap.size, 2, none⟩ = some (.slice none 0 0) ∧ Below w.heap.size w w2 := by
  have k := (Blk.new w t #[.slice none 0 0, v, .slice none 0 0]).below h (by omega)
  exact ⟨k.cell 0, k.cell 1, k.cell 2, ((Below.refl _ _).alloc (Nat.le_refl _) _).trans (h.mono (by omega))⟩

set_option maxRecDepth 100000 in
set_option maxHeartbeats 4000000 in
theorem itemsin_any (v : Value) (xs : List It) (hl : xs.length ≤ 64) (w : World) (b0 : Nat) (hv : w.ownsRow b0 57 5 v xs.length (itv xs)) : Calls Tryd.prog 32 #[edA v] w (NewT w xs) := by
  have k1 := Blk.new (w.alloc (.cells #[.slice none 0 0, v, .slice none 0 0] 28)) 26 #[.slice none 0 0, v]
  rw [show (w.alloc (.cells #[.slice none 0 0, v, .slice none 0 0] 28)).heap.size = w.heap.size + 1 by simp] at k1
  have HC := Lib.hid (concat_items (w.heap.size + 1) v xs hl _ (k1.cell 0) (k1.cell 1) b0 ((hv.alloc _).alloc _))
  obtain ⟨A, cap, rfl⟩ : ∃ A cap, v = .slice A xs.length cap := own_slice hv
  clear k1 hv
  go_enter Tryd.func32, Tryd.ntmps32
  go_wp2_with fail
  refine HC.out.mono ?_
  rintro e w1 ⟨u, rfl, hown, hb⟩
  have HE := Lib.hid (show NewT w xs (.returned u) w1 from ⟨u, rfl, own_base hown (by simp; omega), (((Below.refl _ _).alloc (Nat.le_refl _) _).alloc (by simp) _).trans (hb.mono (by simp; omega))⟩)
  clear hown hb HC
  go_wp2_with fail
  go_ret
  exact HE.out
theorem allok_nil (w : World) : Calls Tryd.prog 33 #[.slice none 0 0] w fun e w' => e = .returned (.bool true) ∧ w = w' := by
  go_enter Tryd.func33, Tryd.ntmps33
  go_wp2_with fail
  go_loop [7] (fun vi => vi = .int .i64 0) (fun _ => 0)
  case atStart => rfl
  case round =>
    subst hrel
    go_wp2_with fail
    go_ret
    exact ⟨rfl, rfl⟩

/-- A list that was parsed. -/
structure Parsed (tg : Nat → Nat) (l : List It) : Prop where
  fit : FitsT (cellsT tg) l
  back : Parses (cellsT tg) (l.flatMap (cellsT tg)) l
  trim : trimI l = l
  sm : ∀ c ∈ l.flatMap (cellsT tg), c < 4294967296
theorem Parsed.len {tg : Nat → Nat} {l : List It} (h : Parsed tg l) : l.length ≤ 64 := Nat.le_trans (FitsT.count h.fit.some) h.fit.len

set_option maxRecDepth 100000 in
set_option maxHeartbeats 4000000 in
theorem impl_edok (tg : Nat → Nat) (v : Value) (l : List It) (hp : Parsed tg l) (w : World) (b0 : Nat) (hv : w.ownsRow b0 57 5 v l.length (itv l)) (hcs : TabsT tg w) :
    Calls Tryd.prog 11 #[edA v] w fun e w' => e = .returned (.bool true) ∧ Below w.heap.size w w' := by
  have hl := hp.len
  have HI := Lib.hid (itemsin_any v l hl (w.alloc (.cells #[.slice none 0 0, v, .slice none 0 0] 28)) b0 (hv.alloc _))
  have HL := Lib.hid (fun W (hb : Below w.heap.size w W) u (hu : RdT W u l) => impl_listok tg u l hp.fit hp.back hp.trim hp.sm W hu (hcs.below hb))
  have HA := Lib.hid (fun W => allok_nil W)
  obtain ⟨A, cap, rfl⟩ : ∃ A cap, v = .slice A l.length cap := own_slice hv
  clear hv hcs hp
  go_enter Tryd.func11, Tryd.ntmps11
  go_wp2_with fail
  refine HI.out.mono ?_
  rintro e w1 ⟨u, rfl, hown, hb⟩
  have hb' : Below (w.heap.size + 1) (w.alloc (.cells #[.slice none 0 0, .slice A l.length cap, .slice none 0 0] 28)) w1 := hb.mono (by simp)
  have HBX := Lib.hid hb'
  have HB := Lib.hid (ed_box hb').2.2.2
  have HL1 := Lib.hid (HL.out w1 HB.out u (RdT.of_own hown (by omega)))
  clear hown hb hb' HI HL
  go_wp2_with fail
  refine HL1.out.mono ?_
  rintro e w2 ⟨rfl, hb2⟩
  have hbx := HBX.out.trans (hb2.mono (by have := HBX.out.size; simp at this; omega))
  obtain ⟨c0, c1, c2, hB2⟩ := ed_box hbx
  have HB2 := Lib.hid hB2
  clear hb2 hbx HL1 hB2
  go_wp2_with fail
  refine (HA.out _).mono ?_
  rintro e w3 ⟨rfl, rfl⟩
  go_wp2_with fail
  go_ret
  exact ⟨rfl, HB2.out⟩

set_option maxRecDepth 100000 in
set_option maxHeartbeats 4000000 in
theorem impl_edcells (tg : Nat → Nat) (v : Value) (l : List It) (hp : Parsed tg l) (w : World) (b0 : Nat) (hv : w.ownsRow b0 57 5 v l.length (itv l)) (hcs : TabsT tg w) :
    Calls Tryd.prog 14 #[edA v] w (NewN w (l.flatMap (cellsT tg))) := by
  have hl := hp.len
  have HO := Lib.hid (impl_edok tg v l hp (w.alloc (.cells #[.slice none 0 0, v, .slice none 0 0] 28)) b0 (hv.alloc _) (hcs.below ((Below.refl _ _).alloc (Nat.le_refl _) _)))
  have HV := Lib.hid (hv.alloc (.cells #[.slice none 0 0, v, .slice none 0 0] 28))
  have HU := Lib.hid (fun W (hb : Below w.heap.size w W) u (hu : RdT W u l) => impl_unparse tg u l hp.fit W hu (hcs.below hb))
  obtain ⟨A, cap, rfl⟩ : ∃ A cap, v = .slice A l.length cap := own_slice hv
  obtain ⟨cs, hcc⟩ : ∃ cs, l.flatMap (cellsT tg) = cs := ⟨_, rfl⟩
  rw [hcc] at HU ⊢
  clear hv hcs hp hcc
  go_enter Tryd.func14, Tryd.ntmps14
  go_wp2_with fail
  refine HO.out.mono ?_
  rintro e w1 ⟨rfl, hb⟩
  have hb' : Below (w.heap.size + 1) (w.alloc (.cells #[.slice none 0 0, .slice A l.length cap, .slice none 0 0] 28)) w1 := hb.mono (by simp)
  obtain ⟨c0, c1, c2, hB⟩ := ed_box hb'
  have HB := Lib.hid hB
  have HI := Lib.hid (itemsin_any _ l hl w1 b0 (ownB HV.out hb))
  clear hb hb' HO HV hB
  go_wp2_with fail
  refine HI.out.mono ?_
  rintro e w2 ⟨u, rfl, hown, hb2⟩
  have HB2 := Lib.hid (HB.out.trans (hb2.mono HB.out.size))
  have HU2 := Lib.hid (HU.out w2 HB2.out u (RdT.of_own hown (by omega)))
  clear hown hb2 HI HU c0 c1 c2
  go_wp2_with fail
  refine HU2.out.mono ?_
  rintro e w3 ⟨u2, rfl, hown3, hb3⟩
  have HE := Lib.hid (show NewN w cs (.returned u2) w3 from ⟨u2, rfl, own_base hown3 HB2.out.size, HB2.out.trans (hb3.mono HB2.out.size)⟩)
  clear hown3 hb3 HU2
  go_wp2_with fail
  go_ret
  exact HE.out

/-- What OpenEd answers. -/
def OpenEnd (w : World) (l : List It) (e : Ending) (w' : World) : Prop := ∃ v, e = .returned (edA v) ∧ w'.ownsRow w.heap.size 57 5 v l.length (itv l) ∧ Below w.heap.size w w'
def putEd (w : World) (g : Nat) (v : Value) : World := ((w.setCell ⟨g, 0, none⟩ (.slice none 0 0)).setCell ⟨g, 1, none⟩ v).setCell ⟨g, 2, none⟩ (.slice none 0 0)
theorem putEd_below {B : Nat} {w w1 : World} {g : Nat} (h : Below B w w1) (hg : B ≤ g) (v : Value) : Below B w (putEd w1 g v) := ((h.setCell hg _).setCell hg _).setCell hg _
theorem putEd_blk {w : World} {g : Nat} {t : TypeId} {a b c : Value} (h : Blk w g t #[a, b, c]) (v : Value) : Blk (putEd w g v) g t #[.slice none 0 0, v, .slice none 0 0] := ((h.put 0 (.slice none 0 0)).put 1 v).put 2 (.slice none 0 0)
theorem putEd_own {w : World} {g base size : Nat} {e : TypeId} {v : Value} {n : Nat} {xs : List Value} (h : w.ownsRow base e size v n xs) (hg : g < base) (u : Value) : (putEd w g u).ownsRow base e size v n xs := by
  obtain ⟨h1, h2⟩ := h
  refine ⟨h1, ?_⟩
  rcases h2 with h2 | ⟨g2, cap, cur, e1, e2, e3, e4⟩
  · exact .inl h2
  · refine .inr ⟨g2, cap, cur, e1, e2, ?_, e4⟩
    unfold putEd
    rw [Below.heap_setCell _ _ _ _ (by show g2 ≠ g; omega), Below.heap_setCell _ _ _ _ (by show g2 ≠ g; omega), Below.heap_setCell _ _ _ _ (by show g2 ≠ g; omega)]
    exact e3

set_option maxRecDepth 100000 in
set_option maxHeartbeats 4000000 in
theorem impl_opened (v : Value) (l : List It) (w : World)
    (hp : Calls Tryd.prog 29 #[v] (w.alloc (.cells #[.slice none 0 0, .slice none 0 0, .slice none 0 0] 28)) (NewT (w.alloc (.cells #[.slice none 0 0, .slice none 0 0, .slice none 0 0] 28)) l)) :
    Calls Tryd.prog 9 #[v] w (OpenEnd w l) := by
  have HP := Lib.hid hp
  clear hp
  go_enter Tryd.func9, Tryd.ntmps9
  go_wp2_with fail
  refine HP.out.mono ?_
  rintro e w1 ⟨u, rfl, hown, hb⟩
  have e0 : (w.alloc (.cells #[.slice none 0 0, .slice none 0 0, .slice none 0 0] 28)).heap.size = w.heap.size + 1 := by simp
  rw [e0] at hown hb
  obtain ⟨A, cap, rfl⟩ : ∃ A cap, u = .slice A l.length cap := own_slice hown
  obtain ⟨c0, c1, c2, hB⟩ := ed_box hb
  have k2 := (Blk.new w 28 #[.slice none 0 0, .slice none 0 0, .slice none 0 0]).below hb (by omega)
  have f0 := k2.frozen 0
  have f1 := k2.frozen 1
  have f2 := k2.frozen 2
  have K2 := Lib.hid k2
  have HB := Lib.hid hB
  have HO := Lib.hid hown
  clear hb k2 hB hown HP
  go_wp2_with fail
  have hk := putEd_blk K2.out (.slice A l.length cap)
  have hbl := putEd_below (g := w.heap.size) HB.out (Nat.le_refl _) (.slice A l.length cap)
  have ho := own_base (putEd_own HO.out (Nat.lt_succ_self _) (.slice A l.length cap)) (Nat.le_succ w.heap.size)
  show bodyPost _ _ _ _ _ (putEd w1 w.heap.size (.slice A l.length cap))
  generalize putEd w1 w.heap.size (.slice A l.length cap) = W5 at hk hbl ho ⊢
  have g0 : W5.cell? ⟨w.heap.size, 0, none⟩ = some (.slice none 0 0) := hk.cell 0
  have g1 : W5.cell? ⟨w.heap.size, 1, none⟩ = some (.slice A l.length cap) := hk.cell 1
  have g2 : W5.cell? ⟨w.heap.size, 2, none⟩ = some (.slice none 0 0) := hk.cell 2
  clear hk
  exact bodyPost_ret (v := edA (.slice A l.length cap)) (by simp [results, Tryd.results9, g0, g1, g2, go_sem]) rfl ⟨_, rfl, ho, hbl⟩
theorem parse_long (v : Value) (xs : List Nat) (hl : 64 < xs.length) (w : World) (hv : RdC w v xs) : Calls Tryd.prog 29 #[v] w (NewT w []) := by
  obtain ⟨-, A, cap, rfl, -⟩ := hv
  have hi : (64 : Int) < (xs.length : Int) := by omega
  go_enter Tryd.func29, Tryd.ntmps29
  go_wp2_with fail
  go_ret
  exact ⟨_, rfl, World.ownsRow_nil _ _ _ _, Below.refl _ _⟩
end Go.Proofs.YtllhcdkbgknjdaaDoor

namespace Go.Proofs.YtllhcdkbgknjdaaDoor
open Go.RowKit Go

/-- So many noughts behind. -/
def padTo (xs : List Nat) : List Nat := xs ++ List.replicate (64 - xs.length) 0
theorem padTo_same {cs : List Nat} {k : Nat} (h : (cs ++ List.replicate k 0).length ≤ 64) : padTo cs = padTo (cs ++ List.replicate k 0) := by
  unfold padTo
  rw [List.append_assoc, List.replicate_append_replicate]
  rw [List.length_append, List.length_replicate] at h ⊢
  congr 2
  omega
theorem zeros_snoc (xs : List Nat) (k : Nat) : (xs ++ List.replicate k 0) ++ [0] = xs ++ List.replicate (k + 1) 0 := by
  rw [List.append_assoc, List.replicate_succ']

set_option maxRecDepth 100000 in
set_option maxHeartbeats 4000000 in
theorem padded_any (v : Value) (xs : List Nat) (hl : xs.length ≤ 64) (w : World) (b0 : Nat) (hv : w.ownsRow b0 51 1 v xs.length (xs.map u32v)) : Calls Tryd.prog 13 #[v] w (NewN w (padTo xs)) := by
  obtain ⟨i0, hi0, hz0, hz1, hz2⟩ := info_parts infoU32
  have HV := Lib.hid (hv.alloc (.cells #[] 51))
  have HS := Lib.hid (own_empty w 51)
  have HB0 : Hid (Below w.heap.size w (w.alloc (.cells #[] 51))) := Lib.hid ((Below.refl _ _).alloc (Nat.le_refl _) _)
  obtain ⟨A, cap, rfl⟩ := own_form hv
  clear hv
  go_enter Tryd.func13, Tryd.ntmps13
  go_wp2_with (at_builtin; refine wpList_append_row rfl _ _ 24 rfl w.heap.size b0 51 i0 (.int .u32 0) 4 Tryd.underlying24 hi0 hz0 hz1 hz2 rfl _ 0 _ rfl HS.out _ xs.length _ rfl HV.out (one_u32' xs) (by unfold maxLen; omega) (by omega) (by simp) ?_; intro v1 w1 hown1 HGR1)
  have HO1 : Hid (w1.ownsRow w.heap.size 51 1 v1 (xs ++ List.replicate 0 0).length ((xs ++ List.replicate 0 0).map u32v)) := Lib.hid (by simpa using hown1)
  have HB1 := Lib.hid (HB0.out.grown HGR1.out (by simp) (own_lt HS.out))
  clear hown1 HV HS HB0 HGR1
  go_loopw [3] (fun vo wr => ∃ k : Nat, xs.length + k ≤ 64 ∧ wr.ownsRow w.heap.size 51 1 vo (xs ++ List.replicate k 0).length ((xs ++ List.replicate k 0).map u32v) ∧ Below w.heap.size w wr) (fun vo _ => 64 - (match vo with | .slice _ n _ => n | _ => 0))
  case atStart => exact ⟨0, by omega, HO1.out, HB1.out⟩
  case round =>
    obtain ⟨k, hk, hown, hB⟩ := hrel
    have hlen : (xs ++ List.replicate k 0).length = xs.length + k := by simp
    have HZ := Lib.hid (zeros_snoc xs k)
    have HPD : Hid (xs.length + k = 64 → xs ++ List.replicate k 0 = padTo xs) := Lib.hid (fun h => by unfold padTo; rw [show 64 - xs.length = k by omega])
    obtain ⟨ys, hys⟩ : ∃ ys, xs ++ List.replicate k 0 = ys := ⟨_, rfl⟩
    rw [hys] at hown hlen HZ HPD
    obtain ⟨A2, cap2, rfl⟩ := own_form hown
    have hbs := hB.size
    have HO := Lib.hid hown
    have HB := Lib.hid hB
    have hy64 : ys.length ≤ 64 := by omega
    clear hown hB hys HO1 HB1
    by_cases hp : ys.length < 64
    · have i2 : (ys.length : Int) < 64 := by omega
      go_wp2_with (at_builtin; refine wpList_append_own _ rfl _ _ 24 rfl w.heap.size 51 i0 (.int .u32 0) 1 4 Tryd.underlying24 hi0 hz0 hz1 hz2 rfl (by decide) _ _ _ rfl (HO.out.alloc _) ⟨wr.heap.size, 0, none⟩ 1 1 [.int .u32 0] rfl rfl (cell_one_new _ _ _) (by simp [Value.oneCell']) (by unfold maxLen; omega) (by omega) (by simp; omega) ?_; intro v' w2 hown' hgrow hif; clear hif)
      have HO2 : Hid (w2.ownsRow w.heap.size 51 1 v' (xs ++ List.replicate (k + 1) 0).length ((xs ++ List.replicate (k + 1) 0).map u32v)) := Lib.hid (by rw [← HZ.out, List.length_append, List.map_append]; exact hown')
      have HB2 := Lib.hid ((HB.out.alloc hbs _).grown hgrow (by simp; omega) (own_lt HO.out))
      have hl2 := own_slice hown'
      clear hown' hgrow
      obtain ⟨A3, c3, rfl⟩ := hl2
      go_roundw
      case rel => exact ⟨k + 1, by omega, HO2.out, HB2.out⟩
      case measure => show 64 - (ys.length + 1) < 64 - ys.length; omega
    · have HQ := Lib.hid (HPD.out (by omega))
      have hge : ¬ (ys.length : Int) < 64 := by omega
      have hle : (64 : Int) ≤ (ys.length : Int) := by omega
      have HE : Hid (NewN w (padTo xs) (.returned (.slice A2 ys.length cap2)) wr) := Lib.hid (by rw [← HQ.out]; exact ⟨_, rfl, HO.out, HB.out⟩)
      obtain ⟨n, hn⟩ : ∃ n, ys.length = n := ⟨_, rfl⟩
      rw [hn] at HE hge hle hp ⊢
      clear HPD HQ HO HZ hn
      go_wp2_with fail
      go_ret
      exact HE.out

theorem sameitems_none (A B : Option Addr) (c d : Nat) (w : World) : Calls Tryd.prog 30 #[.slice A 0 c, .slice B 0 d] w fun e w' => e = .returned (.bool true) ∧ w = w' := by
  go_enter Tryd.func30, Tryd.ntmps30
  go_wp2_with fail
  go_loop [5] (fun vi => vi = .int .i64 0) (fun _ => 0)
  case atStart => rfl
  case round =>
    subst hrel
    go_wp2_with fail
    go_ret
    exact ⟨rfl, rfl⟩
theorem sameed_none (A : Option Addr) (c : Nat) (w : World) : Calls Tryd.prog 10 #[edA (.slice A 0 c), edA (.slice none 0 0)] w fun e w' => e = .returned (.bool true) ∧ Below w.heap.size w w' := by
  have HS := Lib.hid (fun A B c d W => sameitems_none A B c d W)
  have HB : Hid (Below w.heap.size w ((w.alloc (.cells #[.slice none 0 0, .slice A 0 c, .slice none 0 0] 28)).alloc (.cells #[.slice none 0 0, .slice none 0 0, .slice none 0 0] 28))) := Lib.hid (((Below.refl _ _).alloc (Nat.le_refl _) _).alloc (by simp) _)
  go_enter Tryd.func10, Tryd.ntmps10
  go_wp2_with fail
  refine (HS.out _ _ _ _ _).mono ?_
  rintro e w1 ⟨rfl, rfl⟩
  go_wp2_with fail
  refine (HS.out _ _ _ _ _).mono ?_
  rintro e w1 ⟨rfl, rfl⟩
  go_wp2_with fail
  refine (HS.out _ _ _ _ _).mono ?_
  rintro e w1 ⟨rfl, rfl⟩
  go_wp2_with fail
  go_ret
  exact ⟨rfl, HB.out⟩

def DrewCs (w : World) (e : Ending) (w' : World) : Prop := ∃ (v : Value) (ls : List Nat), e = .returned v ∧ ls.length ≤ 400 ∧ (∀ x ∈ ls, x < 4294967296) ∧ w'.ownsRow w.heap.size 51 1 v ls.length (ls.map u32v) ∧ Below w.heap.size w w'
set_option maxHeartbeats 2000000 in
theorem drawopen_any (A : Option Addr) (len cap : Nat) (w : World) (hcode : CodeOk w w.heap.size A len) : Calls Tryd.prog 8 #[.slice A len cap] w (DrewCs w) := by
  have HN := Lib.hid (new_any A len cap w hcode)
  clear hcode
  go_enter Tryd.func8, Tryd.ntmps8
  go_wp2_with fail
  refine HN.out.mono ?_
  rintro e w1 ⟨g, rfl, hg, hc1, hb1⟩
  have HD := Lib.hid (drawcells_any g w1 hc1)
  have HB1 := Lib.hid hb1
  clear hc1 hb1 HN
  go_wp2_with fail
  refine HD.out.mono ?_
  rintro e w2 ⟨v, ls, rfl, hl, hs, hown, hc2, hg2⟩
  have HB2 := Lib.hid (HB1.out.trans (below_of_only hg2 HB1.out.size hg))
  have HO := Lib.hid (hown.mono HB1.out.size)
  have HS := Lib.hid hs
  clear hown hc2 hg2 hs HD
  go_wp2_with fail
  go_ret
  exact ⟨v, ls, rfl, hl, HS.out, HO.out, HB2.out⟩

theorem parsed_in {C : It → List Nat} {xs : List Nat} {l : List It} (hx : ∀ c ∈ xs, c < 4294967296) (h : Parses C xs l) : ∀ it ∈ l, ItIn it := by
  induction h with
  | nil => exact fun _ h => absurd h List.not_mem_nil
  | step h0 _ ih =>
    intro it hit
    rcases List.mem_cons.1 hit with rfl | hit
    · exact (first_in C hx).1
    · exact ih (fun c hc => hx c (List.mem_of_mem_drop hc)) it hit
/-- What the law asks, at cells that are drawn. -/
theorem open_right (tg : Nat → Nat) {xs : List Nat} (hx : ∀ c ∈ xs, c < 4294967296) (hl : xs.length ≤ 64) : ∃ l, Parses (cellsT tg) xs l ∧ Parsed tg (trimI l) ∧ padTo ((trimI l).flatMap (cellsT tg)) = padTo xs := by
  obtain ⟨l, hp⟩ := Parses.some (cellsT tg) xs.length xs (Nat.le_refl _)
  obtain ⟨⟨k, hk⟩, hb, hs⟩ := parse_back (cellsT_raw tg) hp
  have hlen : ((trimI l).flatMap (cellsT tg)).length ≤ 64 := by
    have := congrArg List.length hk
    rw [List.length_append] at this
    omega
  refine ⟨l, hp, ⟨⟨fun it hit => ?_, hs, hlen⟩, hb, trimI_idem l, fun c hc => ?_⟩, ?_⟩
  · exact parsed_in hx hp it (trimI_mem hit)
  · apply hx
    rw [hk]
    exact List.mem_append_left _ hc
  · rw [padTo_same (k := k) (by rw [← hk]; exact hl), ← hk]

set_option maxRecDepth 100000 in
set_option maxHeartbeats 8000000 in
theorem law_FnOpen (tg : Nat → Nat) (A : Option Addr) (len cap : Nat) (w : World) (hcode : CodeOk w w.heap.size A len) (hcs : TabsT tg w) :
    Calls Tryd.prog 3 #[.slice A len cap] w fun e w' => e = .returned (.bool true) ∧ Below w.heap.size w w' := by
  have HC := Lib.hid hcode
  have HCS := Lib.hid hcs
  clear hcode hcs
  by_cases hbig : (1048576 : Int) < (len : Int)
  · have hb1 : decide ((1048576 : Int) < (len : Int)) = true := by simpa using hbig
    go_enter Tryd.func3, Tryd.ntmps3
    go_wp2_with (go_at_call 7; refine (big_any _ _ _ _).mono ?_; rintro e w' ⟨rfl, rfl⟩)
    go_ret
    exact ⟨rfl, Below.refl _ _⟩
  · have hb1 : decide ((1048576 : Int) < (len : Int)) = false := by simpa using hbig
    clear hbig
    go_enter Tryd.func3, Tryd.ntmps3
    go_wp2_with (go_at_call 7; refine (big_any _ _ _ _).mono ?_; rintro e w' ⟨rfl, rfl⟩)
    refine (drawopen_any A len cap w HC.out).mono ?_
    rintro e w1 ⟨v, ls, rfl, hl, hs, hown, hb1'⟩
    have HB1 := Lib.hid hb1'
    have HV := Lib.hid hown
    have hrd := RdC.of_own hown (by omega)
    by_cases h64 : 64 < ls.length
    · have HO := Lib.hid (impl_opened v [] w1 (parse_long v ls h64 _ (hrd.below ((Below.refl _ _).alloc (Nat.le_refl _) _))))
      have h64i : (64 : Int) < (ls.length : Int) := by omega
      obtain ⟨A1, c1, rfl⟩ := own_form hown
      clear hown hs hb1' hrd
      go_wp2_with fail
      refine HO.out.mono ?_
      rintro e w2 ⟨u, rfl, hown2, hb2⟩
      obtain ⟨A2, c2, rfl⟩ : ∃ A2 c2, u = .slice A2 0 c2 := own_slice hown2
      have HB2 := Lib.hid (HB1.out.trans (hb2.mono HB1.out.size))
      have HSE := Lib.hid (fun W => sameed_none A2 c2 W)
      clear hown2 hb2 HO
      go_wp2_with fail
      refine (HSE.out _).mono ?_
      rintro e w3 ⟨rfl, hb3⟩
      have HB3 := Lib.hid ((HB2.out.alloc HB2.out.size _).trans (hb3.mono (Nat.le_trans HB2.out.size (by simp))))
      clear hb3
      go_wp2_with fail
      go_ret
      exact ⟨rfl, HB3.out⟩
    · have h64' : ls.length ≤ 64 := by omega
      obtain ⟨l, hp, hpd, hpad⟩ := open_right tg hs h64'
      have HO := Lib.hid (impl_opened v (trimI l) w1 (impl_parse tg v ls hs h64' _ (hrd.below ((Below.refl _ _).alloc (Nat.le_refl _) _)) ((HCS.out.below hb1').below ((Below.refl _ _).alloc (Nat.le_refl _) _)) l hp))
      have h64i : (ls.length : Int) ≤ 64 := by omega
      have HPD := Lib.hid hpd
      have HPAD := Lib.hid hpad
      obtain ⟨A1, c1, rfl⟩ := own_form hown
      obtain ⟨m, hm⟩ : ∃ m, trimI l = m := ⟨_, rfl⟩
      rw [hm] at HO HPD HPAD
      clear hown hs hb1' hrd hp hpd hpad hm
      go_wp2_with fail
      refine HO.out.mono ?_
      rintro e w2 ⟨u, rfl, hown2, hb2⟩
      obtain ⟨A2, c2, rfl⟩ : ∃ A2 c2, u = .slice A2 m.length c2 := own_slice hown2
      have HB2 := Lib.hid (HB1.out.trans (hb2.mono HB1.out.size))
      have HV2 := Lib.hid (ownB HV.out hb2)
      have HU2 := Lib.hid hown2
      have HOK := Lib.hid (impl_edok tg _ m HPD.out (w2.alloc (.cells #[.slice none 0 0, .slice A2 m.length c2, .slice none 0 0] 28)) _ (hown2.alloc _) (HCS.out.below (HB2.out.alloc HB2.out.size _)))
      have hml : m.length ≤ 64 := HPD.out.len
      clear hown2 hb2 HO
      go_wp2_with fail
      refine HOK.out.mono ?_
      rintro e w3 ⟨rfl, hb3⟩
      have hb3' : Below (w2.heap.size + 1) (w2.alloc (.cells #[.slice none 0 0, .slice A2 m.length c2, .slice none 0 0] 28)) w3 := hb3.mono (by simp)
      have HBX3 := Lib.hid hb3'
      obtain ⟨p0, p1, p2, hB3⟩ := ed_box hb3'
      have HB3 := Lib.hid (HB2.out.trans (hB3.mono HB2.out.size))
      have HEC := Lib.hid (impl_edcells tg _ m HPD.out w3 _ (ownB (HU2.out.alloc _) hb3) (HCS.out.below HB3.out))
      have HV3 := Lib.hid (ownB HV2.out hB3)
      obtain ⟨cs, hcc⟩ : ∃ cs, m.flatMap (cellsT tg) = cs := ⟨_, rfl⟩
      rw [hcc] at HEC HPAD
      have hcs64 : cs.length ≤ 64 := by rw [← hcc]; exact HPD.out.fit.len
      clear hb3 hb3' hB3 hcc HOK
      go_wp2_with fail
      refine HEC.out.mono ?_
      rintro e w4 ⟨u4, rfl, hown4, hb4⟩
      have HBX4 := Lib.hid (HBX3.out.trans (hb4.mono (by have := HBX3.out.size; simp at this; omega)))
      have HB4 := Lib.hid (HB3.out.trans (hb4.mono HB3.out.size))
      have HP1 := Lib.hid (padded_any u4 cs hcs64 w4 _ hown4)
      have HV4 := Lib.hid (ownB HV3.out hb4)
      clear hown4 hb4 HEC p0 p1 p2
      go_wp2_with fail
      refine HP1.out.mono ?_
      rintro e w5 ⟨u5, rfl, hown5, hb5⟩
      have HBX5 := Lib.hid (HBX4.out.trans (hb5.mono (by have := HBX4.out.size; simp at this; omega)))
      have HB5 := Lib.hid (HB4.out.trans (hb5.mono HB4.out.size))
      have HP2 := Lib.hid (padded_any _ ls h64' w5 _ (ownB HV4.out hb5))
      have HR5 := Lib.hid (RdN.of_own hown5 (by unfold padTo; rw [List.length_append, List.length_replicate]; omega))
      clear hown5 hb5 HP1
      go_wp2_with fail
      refine HP2.out.mono ?_
      rintro e w6 ⟨u6, rfl, hown6, hb6⟩
      have HBX6 := Lib.hid (HBX5.out.trans (hb6.mono (by have := HBX5.out.size; simp at this; omega)))
      have HB6 := Lib.hid (HB5.out.trans (hb6.mono HB5.out.size))
      have HSC := Lib.hid (samecells_any u5 u6 _ _ w6 (HR5.out.below hb6) (RdN.of_own hown6 (by unfold padTo; rw [List.length_append, List.length_replicate]; omega)))
      rw [decide_eq_true HPAD.out] at HSC
      clear hown6 hb6 HP2
      go_wp2_with fail
      refine HSC.out.mono ?_
      rintro e w7 ⟨rfl, d, rfl⟩
      obtain ⟨p0, p1, p2, hB7⟩ := ed_box (HBX6.out.trans ((below_drewN (Below.refl _ _) d : Below w6.heap.size w6 (w6.drewN d)).mono (by have := HBX6.out.size; simp at this; omega)))
      have HB7 := Lib.hid (below_drewN HB6.out d)
      clear hB7 HSC
      go_wp2_with fail
      go_ret
      exact ⟨rfl, HB7.out⟩
end Go.Proofs.YtllhcdkbgknjdaaDoor

namespace Go.Proofs.YtllhcdkbgknjdaaDoor
open Go.ChangeShapes Go.WideShapes Go.ChangeAt Go.ChangeMaps Go.RowKit Go

theorem handed_laid_shaped {H : Type} {enc : TypeId × Value → H} {a : Assume} {C : Checked} {os : Os} {f : FuncId} {fn : Func} {s : ChangeSpec} {conds : List PathCond} {apart fresh handsOn again : Bool} {X : World → Array Value → Prop}
    (hX : ∀ (w w' : World) (args : Array Value), w.heap = w'.heap → X w args → X w' args)
    (own : ownKnob C.prog.godebug = none) (started : os.Started) (noInit : C.prog.inits.idxOf? f = none) (hfn : C.prog.funcs[f]? = some fn)
    (witness : ∃ (w : World) (tape : Tape) (i : Input), w.os = os ∧ (w.forCall tape i).Shaped C.prog ∧ i.vars = [] ∧ Input.okWide C.prog (w.forCall tape i) .any w.heap.size f i ∧
      ((s.pre enc C.prog fn conds apart (w.forCall tape i).memory i.args ∧ X (w.forCall tape i).memory i.args) ∧ sizedMet enc C.prog fn (OpenSpec.ofChange s) apart (w.forCall tape i).memory i.args) ∧ a.holds C.prog (lone (Frame.enter C.prog f i.args .normal) [] (w.forCall tape i)))
    (contract : ∀ (W : World) (base : Nat) (args : Array Value) (ds gs : List (DataW H)) (before : List MemPlace),
      (∀ (j : Nat) t v, fn.params[j]? = some t → args[j]? = some v → Value.okWide C.prog W .any base t v) →
      DataW.Whole enc C.prog fn.params.toList s.vars apart W args.toList ds gs before →
      X W args → W.ShapedOpen C.prog →
      Calls C.prog f args W fun e W' => ∃ v, e = .returned v ∧ s.post enc C.prog fn apart fresh handsOn again W args v W') :
    ReturnsInHanded a C os f .any (fun w args => (s.pre enc C.prog fn conds apart w args ∧ X w args) ∧ sizedMet enc C.prog fn (OpenSpec.ofChange s) apart w args) (s.post enc C.prog fn apart fresh handsOn again) := by
  refine returnsInHanded_of_calls own started noInit witness ?_
  intro w tape i _ hsh _ hok hpre _
  obtain ⟨_, _, _, fn', hfn', _, _, _, _, hval⟩ := hok
  have e : fn' = fn := Option.some.inj (hfn'.symm.trans hfn)
  subst e
  obtain ⟨⟨⟨ds, gs, before, hw, hc⟩, hx⟩, hz⟩ := hpre
  have hw' := DataW.Whole.of_heap (w' := w.forCall tape i) (by rfl) hw
  refine (contract (w.forCall tape i) w.heap.size i.args ds gs before hval hw' (hX _ _ _ (by rfl) hx) hsh).mono fun e W' ⟨v, he, hp⟩ => ?_
  subst he
  exact ChangeSpec.post_blind hp
end Go.Proofs.YtllhcdkbgknjdaaDoor
