/-
  impl.parts tells the parts of a text between the signs that cut it, in order, as a function that takes a yield: for every loop body that keeps what lay.
-/
import Derived.Test.YtfldaknhdggdiaaSplit
import Derived.Test.YtfldaknhdggdiaaBlk
import Derived.Test.YtfldaknhdggdiaaShelf
import Derived.RangeFuncNested
import Derived.RangeFuncBound
import Derived.RangeFuncBox
import Derived.RangeFuncCalls
import Derived.RangeFuncLeaves
import Derived.Shelf.Abstract
import Derived.Shelf.RegionOpen
import Derived.WalkKit
import Derived.WalkSpells
import Derived.WalkSmall
import Derived.OwnWalkIn
import Derived.TacticsInMore
import Derived.LoopNIn
import Derived.LoopIn
import Derived.Maps.AppendAt
import Derived.Lib.OthersKept
import Derived.Lib.Hide
import Derived.Lib.Strings
import Derived.Lib.IndexBytes
import Derived.WideShapes
namespace Go.Proofs.Ytfldaknhdggdiaa
open Go.RowKit Go.Shelf Go

attribute [local go_sem] Oper.semAt_some

theorem clone_any (s : ByteArray) (w : World) (hlim : s.size ≤ 281474976710656) :
    Calls Try.prog 27 #[.string s] w fun e w' => e = .returned (.string s) ∧ Below w.heap.size w w' := by
  go_enter Try.func27, Try.ntmps27
  go_wp2_with (go_at_call 28; refine (Try.stringslite_Clone _ _ hlim).mono ?_; rintro e w' ⟨rfl, hb⟩)
  go_ret
  exact ⟨rfl, hb⟩

/-- What a function value that tells which signs cut answers. -/
structure Cuts (kf : Nat) (q : Int → Bool) : Prop where
  calls : ∀ (r : Int) (w : World), -2147483648 ≤ r → r ≤ 2147483647 → Calls Try.prog kf #[.int .i32 r] w fun e w' => e = .returned (.bool (q r)) ∧ w = w'
  high : ∀ r : Int, 128 ≤ r → q r = false
def onByte (q : Int → Bool) (c : UInt8) : Bool := q (c.toNat : Int)
/-- The parts, as texts. -/
def partsOf (q : Int → Bool) (s : ByteArray) : List ByteArray := (splitB (onByte q) s.data.toList).map fun l => ⟨l.toArray⟩

/-- Where the iterator stands: pre has been told, the next part begins at f, the sign at pos comes next. -/
structure At (q : Int → Bool) (s : ByteArray) (pre : List ByteArray) (f pos : Nat) : Prop where
  fpos : f ≤ pos
  le : pos ≤ s.size
  told : pre ++ (splitB (onByte q) (s.data.toList.drop f)).map (fun l => ⟨l.toArray⟩) = partsOf q s
  plain : ∀ j (h : j < s.data.toList.length), f ≤ j → j < pos → onByte q (s.data.toList[j]) = false
theorem At.start (q : Int → Bool) (s : ByteArray) : At q s [] 0 0 := ⟨Nat.le_refl _, Nat.zero_le _, by simp [partsOf], fun j _ _ h => by omega⟩
theorem At.len {q : Int → Bool} {s : ByteArray} {pre : List ByteArray} {f pos : Nat} (h : At q s pre f pos) : pre.length < (partsOf q s).length := by
  have := congrArg List.length h.told
  have h2 := List.length_pos_iff.2 (splitB_ne (onByte q) (s.data.toList.drop f))
  simp at this
  omega
theorem piece (s : ByteArray) (f a : Nat) : s.extract f a = ⟨((s.data.toList.drop f).take (a - f)).toArray⟩ := by
  refine Go.WideShapes.bytes_inj ?_
  rw [Lib.extract_data]
theorem piece_end (s : ByteArray) (f : Nat) : s.extract f s.size = ⟨(s.data.toList.drop f).toArray⟩ := by
  refine Go.WideShapes.bytes_inj ?_
  rw [Lib.extract_to_end]
theorem size_list (s : ByteArray) : s.data.toList.length = s.size := by simp
/-- A sign that does not cut. -/
theorem At.skip {kf : Nat} {q : Int → Bool} {s : ByteArray} {pre : List ByteArray} {f pos : Nat} (hq : Cuts kf q) (h : At q s pre f pos) (hp : pos < s.size) (hn : q ((Utf8.decode s pos).1 : Int) = false) : At q s pre f (pos + (Utf8.decode s pos).2) := by
  refine ⟨by have := h.fpos; omega, decode_fits s pos hp, h.told, fun j hj h1 h2 => ?_⟩
  have hj' : j < s.size := by rw [← size_list]; exact hj
  rcases Nat.lt_or_ge j pos with h3 | h3
  · exact h.plain j hj h1 h3
  · by_cases ha : s[pos].toNat < 128
    · rw [decode_ascii s pos hp ha] at hn h2
      obtain rfl : j = pos := by simp at h2; omega
      exact hn
    · rcases Nat.eq_or_lt_of_le h3 with rfl | h4
      · exact hq.high _ (by show (128 : Int) ≤ ((s[pos].toNat : Nat) : Int); omega)
      · have := decode_cont s pos hp j hj' h4 h2
        exact hq.high _ (by show (128 : Int) ≤ ((s[j].toNat : Nat) : Int); omega)
/-- A sign that cuts is one byte. -/
theorem At.cut {kf : Nat} {q : Int → Bool} {s : ByteArray} {pre : List ByteArray} {f pos : Nat} (hq : Cuts kf q) (h : At q s pre f pos) (hp : pos < s.size) (hc : q ((Utf8.decode s pos).1 : Int) = true) :
    (Utf8.decode s pos).2 = 1 ∧ At q s (pre ++ [s.extract f pos]) (pos + 1) (pos + 1) := by
  have ha : s[pos].toNat < 128 := by
    rcases Nat.lt_or_ge s[pos].toNat 128 with h1 | h1
    · exact h1
    · have := (decode_high s pos hp h1).1
      rw [hq.high _ (by omega)] at hc
      cases hc
  have hd := decode_ascii s pos hp ha
  rw [hd] at hc
  refine ⟨by rw [hd], Nat.le_refl _, by omega, ?_, fun j _ h1 h2 => by omega⟩
  rw [← h.told, split_at h.fpos (by rw [size_list]; exact hp) h.plain hc]
  simp [piece]
theorem At.rest {q : Int → Bool} {s : ByteArray} {pre : List ByteArray} {f pos : Nat} (h : At q s pre f pos) (hp : ¬ pos < s.size) : pre ++ [s.extract f s.size] = partsOf q s := by
  rw [← h.told, split_rest (fun j hj h1 => h.plain j hj h1 (by rw [size_list] at hj; omega))]
  simp [piece_end]

/-- The blocks between two numbers lie as they lay. -/
def Mid (b n₀ : Nat) (A B : World) : Prop := ∀ k, b < k → k < n₀ → B.heap[k]? = A.heap[k]?
theorem Mid.refl (b n₀ : Nat) (A : World) : Mid b n₀ A A := fun _ _ _ => rfl
theorem Mid.trans {b n₀ : Nat} {A B C : World} (h : Mid b n₀ A B) (k : Mid b n₀ B C) : Mid b n₀ A C := fun i h1 h2 => (k i h1 h2).trans (h i h1 h2)
theorem Mid.of {b n₀ m : Nat} {A B : World} (h : Below m A B) (hm : n₀ ≤ m) : Mid b n₀ A B := fun i _ h2 => h.block i (by omega)
theorem Mid.cell {b n₀ : Nat} {A B : World} (h : Mid b n₀ A B) {g : Nat} (h1 : b < g) (h2 : g < n₀) : B.cell? ⟨g, 0, none⟩ = A.cell? ⟨g, 0, none⟩ := World.cell?_of_block (h g h1 h2)
/-- What a round keeps of the iterator's: the two boxes of the text and of what cuts it, and the walks. -/
def Kept (b n₀ : Nat) (A B : World) : Prop := Mid b n₀ A B ∧ KeepsWalks A B

theorem iterAt_grown (w : World) (k : Nat) (s : ByteArray) (pos : Nat) : w.grownBy (w.iterAt k s pos) (some k) :=
  ⟨rfl, rfl, rfl, by rw [Lib.iterAt_size]; exact Nat.le_refl _, fun i _ hk => Lib.iterAt_other w k i s pos (fun e => hk (by rw [e]))⟩
theorem decode_width_pos' (s : ByteArray) (pos : Nat) (h : pos < s.size) : 1 ≤ (Utf8.decode s pos).2 := by
  by_cases ha : (s[pos]'h).toNat < 128
  · rw [decode_ascii s pos h ha]; exact Nat.le_refl 1
  · exact (decode_high s pos h (by omega)).2
theorem ext_size (s : ByteArray) (a b : Nat) : (s.extract a b).size = min b s.size - a := by simp

set_option maxRecDepth 100000 in
set_option maxHeartbeats 4000000 in
theorem parts1_nl (q : Int → Bool) (hq : Cuts 22 q) (n l b n₀ g1 g2 : Nat) (hn : 1 ≤ n) (s : ByteArray) (hs : s.size ≤ 1048576) (J Jx : List ByteArray → World → Prop) (W : World) (hJ : AbidesFrom W.heap.size J) (hJx : AbidesFrom W.heap.size Jx)
    (hY : ∀ pre x W, J pre W → pre.length < (partsOf q s).length → YieldAt Fence.wide (n - 1) Try.prog l #[.string x] W fun e W' =>
      (e = .returned (.bool true) ∧ J (pre ++ [x]) W' ∧ Kept b n₀ W W') ∨ (e = .returned (.bool false) ∧ Jx (pre ++ [x]) W'))
    (hg1 : W.cell? ⟨g1, 0, none⟩ = some (.string s)) (hg2 : W.cell? ⟨g2, 0, none⟩ = some (.func (.func 22) #[] #[])) (hb1 : b < g1) (hb2 : b < g2) (hl1 : g1 < n₀) (hl2 : g2 < n₀) (hn₀ : n₀ ≤ W.heap.size) (h0 : J [] W) :
    CallsIn Fence.wide n Try.prog 26 #[.func (.yield l) #[] #[], .pointer (some ⟨g1, 0, none⟩), .pointer (some ⟨g2, 0, none⟩)] W fun e W' => (∃ v, e = .returned v) ∧
      ((∃ ys, ys = partsOf q s ∧ J ys W') ∨ (∃ pre, pre <+: partsOf q s ∧ Jx pre W')) := by
  refine callsIn_of_wp Try.func26 rfl trivial ?_ rfl
  simp only [Try.ntmps26, List.size_toArray, List.length_cons, List.length_nil, Nat.reduceAdd, Nat.reduceSub, Array.replicate_succ, Array.replicate_zero, List.push_toArray, List.append_toArray, List.nil_append, List.cons_append]
  have HY := Lib.hid hY
  have HJ := Lib.hid hJ
  have HX := Lib.hid hJx
  have HQ := Lib.hid hq
  have HG1 := Lib.hid hg1
  have HG2 := Lib.hid hg2
  have H0 := Lib.hid h0
  have hg1' := hg1
  clear hY hJ hJx hq hg2 h0
  gi_wp2
  clear hg1 hg1'
  have hK : (W.iter s 0).heap[W.heap.size]? = some (.stringIter s 0) := World.iter_heap W s 0
  have hJ0 : J [] (W.iter s 0) := HJ.out _ _ _ none H0.out (World.grownBy_alloc W _ none) (fun r e => by cases e)
  have hB0 : Mid b n₀ W (W.iter s 0) := Mid.of ((Below.refl n₀ W).alloc hn₀ _) (Nat.le_refl _)
  gi_loopw [4] (fun vf wr => ∃ (pre : List ByteArray) (f pos : Nat), vf = .int .i64 f ∧ Hid (At q s pre f pos) ∧ Hid (wr.heap[W.heap.size]? = some (.stringIter s pos) ∧ J pre wr ∧ Mid b n₀ W wr ∧ W.heap.size < wr.heap.size))
    (fun _ wr => s.size - wr.iterPos W.heap.size)
  case atStart => exact ⟨[], 0, 0, rfl, At.start q s, hK, hJ0, hB0, by simp [World.iter]⟩
  case round =>
    obtain ⟨pre, f, pos, rfl, HA, HW⟩ := hrel
    obtain ⟨hit, hJs, hB, hlt⟩ := HW.out
    have hfp := HA.out.fpos
    have hps := HA.out.le
    clear hK hJ0 hB0
    by_cases hp : pos < s.size
    · have hnx := fun ty => Lib.run_next_any_at (P := Try.prog) wr W.heap.size s pos ty hit hp
      have hwp := decode_width_pos' s pos hp
      obtain ⟨d, hd⟩ : ∃ d, Utf8.decode s pos = d := ⟨_, rfl⟩
      have hdl := decode_le s pos
      rw [hd] at hnx hwp hdl
      have hit2 := Lib.iterAt_heap wr W.heap.size s pos (pos + d.2) hit
      have hJ2 : J pre (wr.iterAt W.heap.size s (pos + d.2)) := HJ.out _ _ _ (some W.heap.size) hJs (iterAt_grown wr W.heap.size s _) (fun r e => by cases e; exact ⟨Nat.le_refl _, _, hit, rfl⟩)
      have hB2 : Mid b n₀ W (wr.iterAt W.heap.size s (pos + d.2)) := hB.trans fun k _ h2 => Lib.iterAt_other wr W.heap.size k s _ (by omega)
      have hlt2 : W.heap.size < (wr.iterAt W.heap.size s (pos + d.2)).heap.size := by rw [Lib.iterAt_size]; exact hlt
      obtain ⟨W2, hW2⟩ : ∃ W2, wr.iterAt W.heap.size s (pos + d.2) = W2 := ⟨_, rfl⟩
      rw [hW2] at hnx hit2 hJ2 hB2 hlt2
      have hc1 : W2.cell? ⟨g1, 0, none⟩ = some (.string s) := (hB2.cell hb1 hl1).trans HG1.out
      have hc2 : W2.cell? ⟨g2, 0, none⟩ = some (.func (.func 22) #[] #[]) := (hB2.cell hb2 hl2).trans HG2.out
      have HD := Lib.hid hd
      have HI2 := Lib.hid hit2
      have HJ2 := Lib.hid hJ2
      have HB2 := Lib.hid hB2
      have HL2 := Lib.hid hlt2
      have hm0 : wr.iterPos W.heap.size = pos := iterPos_of hit
      have HM0 := Lib.hid hm0
      clear hd hit2 hJ2 hB2 hW2 hit hJs hB hlt hm0 hlt2
      have hdl2 : (d.1 : Int) ≤ 2147483647 := by omega
      by_cases hc : q (d.1 : Int) = true
      · have hcut := HA.out.cut HQ.out hp (by rw [HD.out]; exact hc)
        rw [HD.out] at hcut
        have HCUT := Lib.hid hcut
        have HC := Lib.hid hc
        have hlen := HA.out.len
        have HLEN := Lib.hid hlen
        have i1 : (f : Int) ≤ (pos : Int) := by omega
        have i2 : (pos : Int) ≤ (s.size : Int) := by omega
        clear hc hcut hlen
        gi_wp2_with (refine ⟨trivial, ?_⟩; gi_at_call 22; refine (callsIn_wide.2 (HQ.out.calls _ _ (by omega) (by omega))).mono ?_; rintro e w' ⟨he, rfl⟩; rw [HC.out] at he; subst he)
        refine ⟨trivial, ?_⟩
        refine (callsIn_wide.2 (clone_any (s.extract f pos) W2 (by rw [ext_size]; omega))).mono ?_
        rintro e W3 ⟨rfl, hb3⟩
        have hJ3 : J pre W3 := HJ.out _ _ _ none HJ2.out (only_of_below hb3 none) (fun r e => by cases e)
        have HB3 := Lib.hid (HB2.out.trans (Mid.of hb3 (by have := HL2.out; omega)))
        have HI3 := Lib.hid ((hb3.block _ HL2.out).trans HI2.out)
        have HS3 := Lib.hid hb3.size
        clear hb3
        obtain ⟨fn, tmps, assign, body, hy, hR⟩ := HY.out pre (s.extract f pos) W3 hJ3 HLEN.out
        have HR := Lib.hid hR
        clear hJ3 hR
        gi_wp2
        refine HR.out.mono ?_
        rintro e W4 (⟨rfl, hJ4, hk4, hw4⟩ | ⟨rfl, hJx4⟩)
        · have hit4 : W4.heap[W.heap.size]? = some (.stringIter s (pos + d.2)) := hw4.same _ _ HI3.out rfl
          have H4 : Hid (W4.heap[W.heap.size]? = some (.stringIter s (pos + d.2)) ∧ J (pre ++ [s.extract f pos]) W4 ∧ Mid b n₀ W W4 ∧ W.heap.size < W4.heap.size) := Lib.hid ⟨hit4, hJ4, HB3.out.trans hk4, by have := HL2.out; have := HS3.out; have := hw4.size; omega⟩
          clear hJ4 hk4 hw4 hit4
          gi_wp2
          go_roundw
          case rel => exact ⟨pre ++ [s.extract f pos], pos + 1, pos + d.2, by go_num, by rw [HCUT.out.1]; exact HCUT.out.2, H4.out⟩
          case measure => rw [iterPos_of H4.out.1, HM0.out]; omega
        · have HX4 := Lib.hid hJx4
          clear hJx4
          gi_wp2
          refine bodyPost_ret (results_none rfl _ _ _) rfl ?_
          exact ⟨⟨_, rfl⟩, .inr ⟨pre ++ [s.extract f pos], ⟨_, HCUT.out.2.told⟩, HX4.out⟩⟩
      · have hc' : q (d.1 : Int) = false := by simpa using hc
        have hskip := HA.out.skip HQ.out hp (by rw [HD.out]; exact hc')
        rw [HD.out] at hskip
        have HSK := Lib.hid hskip
        have HC := Lib.hid hc'
        clear hc hc' hskip
        gi_wp2_with (refine ⟨trivial, ?_⟩; gi_at_call 22; refine (callsIn_wide.2 (HQ.out.calls _ _ (by omega) (by omega))).mono ?_; rintro e w' ⟨he, rfl⟩; rw [HC.out] at he; subst he)
        go_roundw
        case rel => exact ⟨pre, f, pos + d.2, rfl, HSK.out, HI2.out, HJ2.out, HB2.out, HL2.out⟩
        case measure => rw [iterPos_of HI2.out, HM0.out]; omega
    · have hnx := fun ty => Lib.run_next_end_at (P := Try.prog) wr W.heap.size s pos ty hit hp
      have hrest := HA.out.rest hp
      have HRE := Lib.hid hrest
      have HLEN := Lib.hid HA.out.len
      have hc1 : wr.cell? ⟨g1, 0, none⟩ = some (.string s) := (hB.cell hb1 hl1).trans HG1.out
      have i1 : (f : Int) ≤ (s.size : Int) := by omega
      have HJ2 := Lib.hid hJs
      have HB2 := Lib.hid hB
      clear hrest hit hJs hB hlt
      gi_wp2
      refine ⟨trivial, ?_⟩
      refine (callsIn_wide.2 (clone_any (s.extract f s.size) wr (by rw [ext_size]; omega))).mono ?_
      rintro e W3 ⟨rfl, hb3⟩
      have hJ3 : J pre W3 := HJ.out _ _ _ none HJ2.out (only_of_below hb3 none) (fun r e => by cases e)
      clear hb3
      obtain ⟨fn, tmps, assign, body, hy, hR⟩ := HY.out pre (s.extract f s.size) W3 hJ3 HLEN.out
      have HR := Lib.hid hR
      clear hJ3 hR
      gi_wp2
      refine HR.out.mono ?_
      rintro e W4 (⟨rfl, hJ4, hk4, hw4⟩ | ⟨rfl, hJx4⟩)
      · have H4 := Lib.hid hJ4
        clear hJ4 hk4 hw4
        gi_wp2
        go_end0
        exact ⟨⟨_, rfl⟩, .inl ⟨_, HRE.out, H4.out⟩⟩
      · have H4 := Lib.hid hJx4
        clear hJx4
        gi_wp2
        go_end0
        exact ⟨⟨_, rfl⟩, .inr ⟨_, by rw [HRE.out]; exact List.prefix_refl _, H4.out⟩⟩

set_option maxRecDepth 100000 in
set_option maxHeartbeats 4000000 in
theorem parts1_sp (q : Int → Bool) (hq : Cuts 21 q) (n l b n₀ g1 g2 : Nat) (hn : 1 ≤ n) (s : ByteArray) (hs : s.size ≤ 1048576) (J Jx : List ByteArray → World → Prop) (W : World) (hJ : AbidesFrom W.heap.size J) (hJx : AbidesFrom W.heap.size Jx)
    (hY : ∀ pre x W, J pre W → pre.length < (partsOf q s).length → YieldAt Fence.wide (n - 1) Try.prog l #[.string x] W fun e W' =>
      (e = .returned (.bool true) ∧ J (pre ++ [x]) W' ∧ Kept b n₀ W W') ∨ (e = .returned (.bool false) ∧ Jx (pre ++ [x]) W'))
    (hg1 : W.cell? ⟨g1, 0, none⟩ = some (.string s)) (hg2 : W.cell? ⟨g2, 0, none⟩ = some (.func (.func 21) #[] #[])) (hb1 : b < g1) (hb2 : b < g2) (hl1 : g1 < n₀) (hl2 : g2 < n₀) (hn₀ : n₀ ≤ W.heap.size) (h0 : J [] W) :
    CallsIn Fence.wide n Try.prog 26 #[.func (.yield l) #[] #[], .pointer (some ⟨g1, 0, none⟩), .pointer (some ⟨g2, 0, none⟩)] W fun e W' => (∃ v, e = .returned v) ∧
      ((∃ ys, ys = partsOf q s ∧ J ys W') ∨ (∃ pre, pre <+: partsOf q s ∧ Jx pre W')) := by
  refine callsIn_of_wp Try.func26 rfl trivial ?_ rfl
  simp only [Try.ntmps26, List.size_toArray, List.length_cons, List.length_nil, Nat.reduceAdd, Nat.reduceSub, Array.replicate_succ, Array.replicate_zero, List.push_toArray, List.append_toArray, List.nil_append, List.cons_append]
  have HY := Lib.hid hY
  have HJ := Lib.hid hJ
  have HX := Lib.hid hJx
  have HQ := Lib.hid hq
  have HG1 := Lib.hid hg1
  have HG2 := Lib.hid hg2
  have H0 := Lib.hid h0
  have hg1' := hg1
  clear hY hJ hJx hq hg2 h0
  gi_wp2
  clear hg1 hg1'
  have hK : (W.iter s 0).heap[W.heap.size]? = some (.stringIter s 0) := World.iter_heap W s 0
  have hJ0 : J [] (W.iter s 0) := HJ.out _ _ _ none H0.out (World.grownBy_alloc W _ none) (fun r e => by cases e)
  have hB0 : Mid b n₀ W (W.iter s 0) := Mid.of ((Below.refl n₀ W).alloc hn₀ _) (Nat.le_refl _)
  gi_loopw [4] (fun vf wr => ∃ (pre : List ByteArray) (f pos : Nat), vf = .int .i64 f ∧ Hid (At q s pre f pos) ∧ Hid (wr.heap[W.heap.size]? = some (.stringIter s pos) ∧ J pre wr ∧ Mid b n₀ W wr ∧ W.heap.size < wr.heap.size))
    (fun _ wr => s.size - wr.iterPos W.heap.size)
  case atStart => exact ⟨[], 0, 0, rfl, At.start q s, hK, hJ0, hB0, by simp [World.iter]⟩
  case round =>
    obtain ⟨pre, f, pos, rfl, HA, HW⟩ := hrel
    obtain ⟨hit, hJs, hB, hlt⟩ := HW.out
    have hfp := HA.out.fpos
    have hps := HA.out.le
    clear hK hJ0 hB0
    by_cases hp : pos < s.size
    · have hnx := fun ty => Lib.run_next_any_at (P := Try.prog) wr W.heap.size s pos ty hit hp
      have hwp := decode_width_pos' s pos hp
      obtain ⟨d, hd⟩ : ∃ d, Utf8.decode s pos = d := ⟨_, rfl⟩
      have hdl := decode_le s pos
      rw [hd] at hnx hwp hdl
      have hit2 := Lib.iterAt_heap wr W.heap.size s pos (pos + d.2) hit
      have hJ2 : J pre (wr.iterAt W.heap.size s (pos + d.2)) := HJ.out _ _ _ (some W.heap.size) hJs (iterAt_grown wr W.heap.size s _) (fun r e => by cases e; exact ⟨Nat.le_refl _, _, hit, rfl⟩)
      have hB2 : Mid b n₀ W (wr.iterAt W.heap.size s (pos + d.2)) := hB.trans fun k _ h2 => Lib.iterAt_other wr W.heap.size k s _ (by omega)
      have hlt2 : W.heap.size < (wr.iterAt W.heap.size s (pos + d.2)).heap.size := by rw [Lib.iterAt_size]; exact hlt
      obtain ⟨W2, hW2⟩ : ∃ W2, wr.iterAt W.heap.size s (pos + d.2) = W2 := ⟨_, rfl⟩
      rw [hW2] at hnx hit2 hJ2 hB2 hlt2
      have hc1 : W2.cell? ⟨g1, 0, none⟩ = some (.string s) := (hB2.cell hb1 hl1).trans HG1.out
      have hc2 : W2.cell? ⟨g2, 0, none⟩ = some (.func (.func 21) #[] #[]) := (hB2.cell hb2 hl2).trans HG2.out
      have HD := Lib.hid hd
      have HI2 := Lib.hid hit2
      have HJ2 := Lib.hid hJ2
      have HB2 := Lib.hid hB2
      have HL2 := Lib.hid hlt2
      have hm0 : wr.iterPos W.heap.size = pos := iterPos_of hit
      have HM0 := Lib.hid hm0
      clear hd hit2 hJ2 hB2 hW2 hit hJs hB hlt hm0 hlt2
      have hdl2 : (d.1 : Int) ≤ 2147483647 := by omega
      by_cases hc : q (d.1 : Int) = true
      · have hcut := HA.out.cut HQ.out hp (by rw [HD.out]; exact hc)
        rw [HD.out] at hcut
        have HCUT := Lib.hid hcut
        have HC := Lib.hid hc
        have hlen := HA.out.len
        have HLEN := Lib.hid hlen
        have i1 : (f : Int) ≤ (pos : Int) := by omega
        have i2 : (pos : Int) ≤ (s.size : Int) := by omega
        clear hc hcut hlen
        gi_wp2_with (refine ⟨trivial, ?_⟩; gi_at_call 21; refine (callsIn_wide.2 (HQ.out.calls _ _ (by omega) (by omega))).mono ?_; rintro e w' ⟨he, rfl⟩; rw [HC.out] at he; subst he)
        refine ⟨trivial, ?_⟩
        refine (callsIn_wide.2 (clone_any (s.extract f pos) W2 (by rw [ext_size]; omega))).mono ?_
        rintro e W3 ⟨rfl, hb3⟩
        have hJ3 : J pre W3 := HJ.out _ _ _ none HJ2.out (only_of_below hb3 none) (fun r e => by cases e)
        have HB3 := Lib.hid (HB2.out.trans (Mid.of hb3 (by have := HL2.out; omega)))
        have HI3 := Lib.hid ((hb3.block _ HL2.out).trans HI2.out)
        have HS3 := Lib.hid hb3.size
        clear hb3
        obtain ⟨fn, tmps, assign, body, hy, hR⟩ := HY.out pre (s.extract f pos) W3 hJ3 HLEN.out
        have HR := Lib.hid hR
        clear hJ3 hR
        gi_wp2
        refine HR.out.mono ?_
        rintro e W4 (⟨rfl, hJ4, hk4, hw4⟩ | ⟨rfl, hJx4⟩)
        · have hit4 : W4.heap[W.heap.size]? = some (.stringIter s (pos + d.2)) := hw4.same _ _ HI3.out rfl
          have H4 : Hid (W4.heap[W.heap.size]? = some (.stringIter s (pos + d.2)) ∧ J (pre ++ [s.extract f pos]) W4 ∧ Mid b n₀ W W4 ∧ W.heap.size < W4.heap.size) := Lib.hid ⟨hit4, hJ4, HB3.out.trans hk4, by have := HL2.out; have := HS3.out; have := hw4.size; omega⟩
          clear hJ4 hk4 hw4 hit4
          gi_wp2
          go_roundw
          case rel => exact ⟨pre ++ [s.extract f pos], pos + 1, pos + d.2, by go_num, by rw [HCUT.out.1]; exact HCUT.out.2, H4.out⟩
          case measure => rw [iterPos_of H4.out.1, HM0.out]; omega
        · have HX4 := Lib.hid hJx4
          clear hJx4
          gi_wp2
          refine bodyPost_ret (results_none rfl _ _ _) rfl ?_
          exact ⟨⟨_, rfl⟩, .inr ⟨pre ++ [s.extract f pos], ⟨_, HCUT.out.2.told⟩, HX4.out⟩⟩
      · have hc' : q (d.1 : Int) = false := by simpa using hc
        have hskip := HA.out.skip HQ.out hp (by rw [HD.out]; exact hc')
        rw [HD.out] at hskip
        have HSK := Lib.hid hskip
        have HC := Lib.hid hc'
        clear hc hc' hskip
        gi_wp2_with (refine ⟨trivial, ?_⟩; gi_at_call 21; refine (callsIn_wide.2 (HQ.out.calls _ _ (by omega) (by omega))).mono ?_; rintro e w' ⟨he, rfl⟩; rw [HC.out] at he; subst he)
        go_roundw
        case rel => exact ⟨pre, f, pos + d.2, rfl, HSK.out, HI2.out, HJ2.out, HB2.out, HL2.out⟩
        case measure => rw [iterPos_of HI2.out, HM0.out]; omega
    · have hnx := fun ty => Lib.run_next_end_at (P := Try.prog) wr W.heap.size s pos ty hit hp
      have hrest := HA.out.rest hp
      have HRE := Lib.hid hrest
      have HLEN := Lib.hid HA.out.len
      have hc1 : wr.cell? ⟨g1, 0, none⟩ = some (.string s) := (hB.cell hb1 hl1).trans HG1.out
      have i1 : (f : Int) ≤ (s.size : Int) := by omega
      have HJ2 := Lib.hid hJs
      have HB2 := Lib.hid hB
      clear hrest hit hJs hB hlt
      gi_wp2
      refine ⟨trivial, ?_⟩
      refine (callsIn_wide.2 (clone_any (s.extract f s.size) wr (by rw [ext_size]; omega))).mono ?_
      rintro e W3 ⟨rfl, hb3⟩
      have hJ3 : J pre W3 := HJ.out _ _ _ none HJ2.out (only_of_below hb3 none) (fun r e => by cases e)
      clear hb3
      obtain ⟨fn, tmps, assign, body, hy, hR⟩ := HY.out pre (s.extract f s.size) W3 hJ3 HLEN.out
      have HR := Lib.hid hR
      clear hJ3 hR
      gi_wp2
      refine HR.out.mono ?_
      rintro e W4 (⟨rfl, hJ4, hk4, hw4⟩ | ⟨rfl, hJx4⟩)
      · have H4 := Lib.hid hJ4
        clear hJ4 hk4 hw4
        gi_wp2
        go_end0
        exact ⟨⟨_, rfl⟩, .inl ⟨_, HRE.out, H4.out⟩⟩
      · have H4 := Lib.hid hJx4
        clear hJx4
        gi_wp2
        go_end0
        exact ⟨⟨_, rfl⟩, .inr ⟨_, by rw [HRE.out]; exact List.prefix_refl _, H4.out⟩⟩
end Go.Proofs.Ytfldaknhdggdiaa
