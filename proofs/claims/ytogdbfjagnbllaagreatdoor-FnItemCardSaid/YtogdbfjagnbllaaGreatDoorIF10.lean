/-
  The program's reading of an item: the one item whose text it is, or none.
  What a text reads as: kind by kind, the plain facts.
  spec.ReadDec answers the number of -9999999999 .. 9999999999 whose decimal text its argument is, and true; or 0 and false.
  The model's reading of what stands behind a mark.
-/
import Derived.Test.YtogdbfjagnbllaaGreatDoorIF9
import Derived.Test.YtogdbfjagnbllaaGreatDoorIF7
import Derived.Test.YtogdbfjagnbllaaGreatDoorIF1
import Derived.Test.YtogdbfjagnbllaaGreatDoorIF8
namespace Go.Proofs.YtogdbfjagnbllaaGreatDoor
open Go.RowKit Go

/-- What a reading of an item tells. -/
def RItemEnd (l : List UInt8) (w : World) (e : Ending) (w' : World) : Prop := ∃ (it : It) (b : Bool), e = .returned (.tuple #[itVal it, .bool b]) ∧ ReadsItem l it b ∧ Below w.heap.size w w'
theorem RItemEnd.of {l : List UInt8} {w w' : World} {it : It} {b : Bool} (h : ReadsItem l it b) (hb : Below w.heap.size w w') : RItemEnd l w (.returned (.tuple #[itVal it, .bool b])) w' := ⟨it, b, rfl, h, hb⟩
theorem read_word_end (c : UInt8) (k : Int) (s : ByteArray) (hs : s.size ≤ 1048576) (g : Nat) (w : World) (hk : -1 ≤ k ∧ k ≤ 9) (hc : (k = 2 ∨ k = 4 ∨ k = 5 ∨ k = 6) ∧ c = markOf k ∨ (∀ j : Int, 0 ≤ j → j ≤ 9 → markOf j ≠ c)) (h : w.cell? ⟨g, 0, none⟩ = some (.int .i64 k)) :
    Calls Tryz.prog 107 #[.string s, .pointer (some ⟨g, 0, none⟩)] w (ReadEnd c s.data.toList w) := by
  refine (read_word k s g w h).mono ?_
  rintro e w' ⟨rfl, hb⟩
  refine ⟨⟨k, s, 0, false, 0⟩, rfl, ?_, hb⟩
  rcases hc with ⟨h1, rfl⟩ | h1
  · exact only_word h1 (by omega) rfl
  · exact only_none h1 _ (only_in hk (by omega) (by omega) (by omega) (by omega))
theorem text_str {l : List UInt8} {t : ByteArray} (h : (⟨l.toArray⟩ : ByteArray) = t) : t.data.toList = l := by rw [← h]
theorem stringclone_any (s : ByteArray) (hs : s.size ≤ 281474976710656) (w : World) : Calls Tryz.prog 51 #[.string s] w fun e w' => e = .returned (.string s) ∧ Below w.heap.size w w' := by
  have HC := Lib.hid (fun W => Tryz.stringslite_Clone s W hs)
  clear hs
  go_enter Tryz.func51, Tryz.ntmps51
  go_wp2_with fail
  refine (HC.out _).mono ?_
  rintro e w1 ⟨rfl, hb1⟩
  have HB := Lib.hid hb1
  clear hb1
  go_wp2_with fail
  go_ret
  exact ⟨rfl, HB.out⟩
theorem list_ne {a b : ByteArray} (h : a.data.toList ≠ b.data.toList) : (a.toList == b.toList) = false := by
  rw [ByteArray.toList_eq, ByteArray.toList_eq]; simpa using h
theorem name_small {it : It} (h : textOf it ≠ []) : it.name.size ≤ 24 := by
  have hc : cellsOf it ≠ [] := fun e => h (text_no e)
  rcases form_of hc with ⟨_, e, _⟩ | ⟨_, e, _⟩ | ⟨_, _, _, e⟩ | ⟨_, _, _, _, e⟩
  · rw [e]; decide
  · rw [e]; decide
  · exact nameL_size e
  · exact nameL_size e
theorem box_size {w w1 : World} {o : Obj} (h : Below (w.heap.size + 1) (w.alloc o) w1) : w.heap.size + 1 ≤ w1.heap.size := by have := h.size; simpa using this
theorem ba_eq {a b : ByteArray} (h : a.data.toList = b.data.toList) : a = b := bytes_of_list h

set_option maxHeartbeats 4000000 in
theorem impl_readitem_empty (w : World) : Calls Tryz.prog 19 #[.string ⟨#[]⟩] w (RItemEnd [] w) := by
  go_enter Tryz.func19, Tryz.ntmps19
  go_wp2_with fail
  have hk := Blk.new w 38 (itC 0 ⟨#[]⟩ 0 false 0)
  have hbl := (Below.refl w.heap.size w).alloc (Nat.le_refl _) (.cells (itC 0 ⟨#[]⟩ 0 false 0) 38)
  show bodyPost _ _ _ _ _ (w.alloc (.cells (itC 0 ⟨#[]⟩ 0 false 0) 38))
  generalize w.alloc (.cells (itC 0 ⟨#[]⟩ 0 false 0) 38) = W5 at hk hbl ⊢
  obtain ⟨e0, e1, e2, e3, e4, -⟩ := itC_cells hk
  clear hk
  exact bodyPost_ret (v := .tuple #[itA 0 ⟨#[]⟩ 0 false 0, .bool false]) (by simp [results, Tryz.results19, e0, e1, e2, e3, e4, go_sem]) rfl (RItemEnd.of reads_empty hbl)

set_option maxRecDepth 100000 in
set_option maxHeartbeats 8000000 in
theorem impl_readitem_some (s : ByteArray) (hs0 : 0 < s.size) (hs : s.size ≤ 1048576) (l : List UInt8) (hl : s.data.toList = s[0] :: l) (w : World) (hi : ReadIn w) :
    Calls Tryz.prog 19 #[.string s] w (RItemEnd s.data.toList w) := by
  have he : s.toList.isEmpty = false := by rw [ByteArray.toList_eq, hl]; rfl
  have HR := Lib.hid (fun W => readerof_any s[0] W)
  have HI := Lib.hid (fun o => hi.alloc o)
  obtain ⟨t, ht⟩ : ∃ t : ByteArray, s.extract 1 s.size = t := ⟨_, rfl⟩
  have htl : t.data.toList = l := by
    have e2 : s.data.toList.length = s.size := by simp
    rw [hl] at e2
    simp only [List.length_cons] at e2
    rw [← ht]
    simp only [ByteArray.data_extract, Array.toList_extract, hl, List.extract]
    exact List.take_of_length_le (by simp only [List.drop_succ_cons, List.drop_zero]; omega)
  have hts : t.size ≤ 1048576 := by
    have e1 : t.data.toList.length = t.size := by simp
    have e2 : s.data.toList.length = s.size := by simp
    rw [htl] at e1
    rw [hl] at e2
    simp at e2
    omega
  have HL := Lib.hid (And.intro hl htl)
  have HTS := Lib.hid hts
  have HSZ := Lib.hid hs
  clear hi hl htl hts
  go_enter Tryz.func19, Tryz.ntmps19
  go_wp2_with fail
  refine (HR.out _).mono ?_
  rintro e w1 ⟨⟨fv, rfl, hfv⟩, hb1⟩
  have HI1 := Lib.hid ((HI.out _).below hb1)
  have HX1 := Lib.hid (box_mono (box_start w _) (hb1.mono (by simp)))
  clear hb1
  rcases hfv with h37 | h38 | ⟨a, k, g1, g2, g3, hsh, hcm, c1, c2, c3⟩ | ⟨k, g, hk, hcm, c1⟩
  case' raw => have HC := Lib.hid (show Calls Tryz.prog 77 #[.string t] w1 (ReadEnd s[0] t.data.toList w1) from h37 ▸ read_raw t HTS.out w1 HI1.out); clear h37
  case' var => have HC := Lib.hid (show Calls Tryz.prog 80 #[.string t] w1 (ReadEnd s[0] t.data.toList w1) from h38 ▸ read_var t HTS.out w1 HI1.out); clear h38
  case' num => have HC := Lib.hid (show Calls Tryz.prog 104 #[.string t, .pointer (some ⟨g1, 0, none⟩), .pointer (some ⟨g2, 0, none⟩)] w1 (ReadEnd s[0] t.data.toList w1) from hcm ▸ read_num a k hsh t HTS.out g1 g2 g3 w1 HI1.out c1 c2 c3); clear hsh hcm c1 c2 c3
  case' word => have HC := Lib.hid (show Calls Tryz.prog 107 #[.string t, .pointer (some ⟨g, 0, none⟩)] w1 (ReadEnd s[0] t.data.toList w1) from read_word_end s[0] k t HTS.out g w1 hk hcm c1); clear hk hcm c1
  all_goals
    go_wp2_with fail
    refine (HC.out).mono ?_
    rintro e w2 ⟨⟨k, nm, n, x, r⟩, rfl, hon, hb2⟩
    have HX2 := Lib.hid (box_mono HX1.out hb2)
    have HI2 := Lib.hid (HI1.out.below hb2)
    rw [HL.out.2] at hon
    have hin := hon.1
    have HON := Lib.hid hon
    have HS := Lib.hid (fun W (h : TextIn W) => impl_itemtext ⟨k, nm, n, x, r⟩ hin W h)
    unfold TextEnd at HS
    obtain ⟨u, hu⟩ : ∃ u : ByteArray, (⟨(textOf ⟨k, nm, n, x, r⟩).toArray⟩ : ByteArray) = u := ⟨_, rfl⟩
    have HU := Lib.hid (text_str hu)
    rw [hu] at HS
    have HSN := Lib.hid hin.s
    have k3 := Blk.new w2 38 (itC k nm n x (r : Int))
    have HX3 := Lib.hid (HX2.out.alloc (box_size HX2.out) (.cells (itC k nm n x (r : Int)) 38))
    have HT3 := Lib.hid (HI2.out.alloc (.cells (itC k nm n x (r : Int)) 38)).text
    have HLT : Hid (w.heap.size < w2.heap.size) := Lib.hid (by have := box_size HX2.out; omega)
    have K3 := Lib.hid k3
    clear hb2 hon hin hu k3 HC
    go_wp2_with fail
    refine (HS.out _ HT3.out).mono ?_
    rintro e w4 ⟨rfl, hb4⟩
    have hx4 := box_mono HX3.out hb4
    have k4 := K3.out.below hb4 (by simp)
    have r4 : Blk w4 w.heap.size 38 (itC 0 ⟨#[]⟩ 0 false 0) := res_blk hx4
    have hlt4 : w2.heap.size < w4.heap.size := by have := hb4.size; simp at this; omega
    have HX4 := Lib.hid hx4
    have K4 := Lib.hid k4
    have R4 := Lib.hid r4
    have HLT4 := Lib.hid hlt4
    by_cases heq : u.data.toList = s.data.toList
    · have hus : u = s := ba_eq heq
      subst hus
      have HCL := Lib.hid (fun W => stringclone_any nm (Nat.le_trans (name_small (it := ⟨k, nm, n, x, r⟩) (fun e => by have e1 := HU.out.symm.trans HL.out.1; rw [e] at e1; cases e1)) (by decide)) W)
      obtain ⟨c0, c1, c2, c3, c4, f0, f1, f2, f3, f4⟩ := itC_cells k4
      have hz4 := hlt4
      clear hb4 hx4 k4 r4 heq HS hlt4
      go_wp2_with fail
      refine (HCL.out _).mono ?_
      rintro e w5 ⟨rfl, hb5⟩
      have hx5 := box_mono HX4.out hb5
      have k5 := K4.out.below hb5 HLT4.out
      have r5 : Blk w5 w.heap.size 38 (itC 0 ⟨#[]⟩ 0 false 0) := res_blk hx5
      have hne1 : w.heap.size ≠ w2.heap.size := Nat.ne_of_lt HLT.out
      have hne2 : w2.heap.size ≠ w.heap.size := Ne.symm hne1
      have k6 : Blk (w5.setCell ⟨w2.heap.size, 1, none⟩ (.string nm)) w2.heap.size 38 (itC k nm n x (r : Int)) := k5.put 1 (.string nm)
      have r6 := r5.far (p := ⟨w2.heap.size, 1, none⟩) hne1 (.string nm)
      have hb6 := (box_below hx5).setCell (p := ⟨w2.heap.size, 1, none⟩) (Nat.le_of_lt HLT.out) (.string nm)
      have hlt6 : w2.heap.size < w5.heap.size := k5.lt
      obtain ⟨c0, c1, c2, c3, c4, f0, f1, f2, f3, f4⟩ := itC_cells k5
      obtain ⟨d0, d1, d2, d3, d4, q0, q1, q2, q3, q4⟩ := itC_cells k6
      obtain ⟨p0, p1, p2, p3, p4, t0, t1, t2, t3, t4⟩ := itC_cells r6
      have R6 := Lib.hid r6
      have HB6 := Lib.hid hb6
      have HOK := Lib.hid (only_yes HON.out (HU.out.symm.trans HL.out.1))
      clear hb5 hx5 k5 r5 k6 r6 hb6
      go_wp2_with fail
      have hk := putIt_blk R6.out k nm n x (r : Int)
      have hbl := putIt_below (g := w.heap.size) HB6.out (Nat.le_refl _) k nm n x (r : Int)
      show bodyPost _ _ _ _ _ (putIt _ _ k nm n x (r : Int))
      generalize putIt _ _ k nm n x (r : Int) = W5 at hk hbl ⊢
      obtain ⟨e0, e1, e2, e3, e4, -⟩ := itC_cells hk
      clear hk
      exact bodyPost_ret (v := .tuple #[itA k nm n x (r : Int), .bool true]) (by simp [results, Tryz.results19, e0, e1, e2, e3, e4, go_sem]) rfl (RItemEnd.of (it := ⟨k, nm, n, x, r⟩) (HL.out.1 ▸ HOK.out) hbl)
    · have hne := list_ne heq
      obtain ⟨d0, d1, d2, d3, d4, f0, f1, f2, f3, f4⟩ := itC_cells r4
      have HOK := Lib.hid (only_no HON.out (fun e => heq (HU.out.trans (e.trans HL.out.1.symm))))
      clear hb4 hx4 k4 r4 heq HS hlt4
      go_wp2_with fail
      have hk := putIt_blk R4.out 0 ⟨#[]⟩ 0 false 0
      have hbl := putIt_below (g := w.heap.size) (box_below HX4.out) (Nat.le_refl _) 0 ⟨#[]⟩ 0 false 0
      show bodyPost _ _ _ _ _ (putIt _ _ 0 ⟨#[]⟩ 0 false 0)
      generalize putIt _ _ 0 ⟨#[]⟩ 0 false 0 = W5 at hk hbl ⊢
      obtain ⟨e0, e1, e2, e3, e4, -⟩ := itC_cells hk
      clear hk
      exact bodyPost_ret (v := .tuple #[itA 0 ⟨#[]⟩ 0 false 0, .bool false]) (by simp [results, Tryz.results19, e0, e1, e2, e3, e4, go_sem]) rfl (RItemEnd.of (HL.out.1 ▸ HOK.out) hbl)
/-- Reading an item: the one whose text it is. -/
theorem impl_readitem (s : ByteArray) (hs : s.size ≤ 1048576) (w : World) (hi : ReadIn w) : Calls Tryz.prog 19 #[.string s] w (RItemEnd s.data.toList w) := by
  by_cases h0 : 0 < s.size
  · obtain ⟨c, l, e⟩ : ∃ c l, s.data.toList = c :: l := by
      cases e : s.data.toList with
      | nil => have : s.data.toList.length = s.size := by simp
               rw [e] at this; simp at this; omega
      | cons c l => exact ⟨c, l, rfl⟩
    have ec : s[0] = c := by
      have h1 : s.data.toList[0]'(by rw [e]; simp) = s[0] := rfl
      rw [← h1]; simp [e]
    exact impl_readitem_some s h0 hs l (by rw [e, ec]) w hi
  · have e : s = ⟨#[]⟩ := ba_eq (by
      have : s.data.toList.length = s.size := by simp
      exact List.eq_nil_of_length_eq_zero (by omega))
    subst e
    exact impl_readitem_empty w
end Go.Proofs.YtogdbfjagnbllaaGreatDoor

namespace Go.Proofs.YtogdbfjagnbllaaGreatDoor
open Go

/-- A number of 32 bits with a sign, read from its text. -/
def Reads32 (l : List UInt8) (n : Int) (b : Bool) : Prop :=
  (b = true ∧ -2147483648 ≤ n ∧ n ≤ 2147483647 ∧ l = Lib.itoa n) ∨ (b = false ∧ n = 0 ∧ ∀ m : Int, -2147483648 ≤ m → m ≤ 2147483647 → l ≠ Lib.itoa m)
theorem Reads32.of {l : List UInt8} {n : Int} {b : Bool} (h : ReadsDec l n b) (hy : b = true → -2147483648 ≤ n ∧ n ≤ 2147483647) : Reads32 l (if b = true then n else 0) b := by
  rcases h with ⟨h1, h2, h3, h4⟩ | ⟨h1, h2, h3⟩
  · subst h1
    exact .inl ⟨rfl, (hy rfl).1, (hy rfl).2, h4⟩
  · subst h1
    exact .inr ⟨rfl, rfl, fun m a b => h3 m (by omega) (by omega)⟩
theorem Reads32.out {l : List UInt8} {n : Int} (h : ReadsDec l n true) (hn : ¬ (-2147483648 ≤ n ∧ n ≤ 2147483647)) : Reads32 l 0 false := by
  rcases h with ⟨_, h2, h3, h4⟩ | ⟨h1, _⟩
  · exact .inr ⟨rfl, rfl, fun m a b e => hn (by rw [itoa_inj (h4.symm.trans e)]; exact ⟨a, b⟩)⟩
  · cases h1
theorem Reads32.in32 {l : List UInt8} {n : Int} {b : Bool} (h : Reads32 l n b) : -2147483648 ≤ n ∧ n ≤ 2147483647 := by
  rcases h with ⟨_, h2, h3, _⟩ | ⟨_, h2, _⟩ <;> omega

/-- An item read behind the mark of a kind: whatever item of that kind has this text is the one. -/
def TailIs (k : Int) (l : List UInt8) (it : It) (b : Bool) : Prop :=
  ItIn it ∧ ∀ j : It, ItIn j → ItForm j → j.kind = k → tailOf j = l → it = j ∧ b = true
theorem no_size : noText.size ≤ 4611686018427387904 := by decide
theorem in_of {k n : Int} {nm : ByteArray} {x : Bool} {r : Nat} (k1 : -9223372036854775808 ≤ k) (k2 : k ≤ 9223372036854775807) (n1 : -2147483648 ≤ n) (n2 : n ≤ 2147483647) (hr : r < 4294967296) (hs : nm.size ≤ 4611686018427387904) : ItIn ⟨k, nm, n, x, r⟩ := ⟨k1, k2, n1, n2, hr, hs⟩
theorem kind_in {k : Int} (h : 0 ≤ k ∧ k ≤ 9) : -9223372036854775808 ≤ k ∧ k ≤ 9223372036854775807 := by omega
theorem TailIs.raw {l : List UInt8} {n : Nat} {b : Bool} (h : ReadsHex l n b) (hn : n < 4294967296) : TailIs 0 l ⟨0, noText, 0, false, n⟩ b := by
  refine ⟨in_of (k := 0) (n := 0) (by decide) (by decide) (by decide) (by decide) hn (nm := noText) (by decide), fun j ji jf jk jt => ?_⟩
  rw [tail_raw jk] at jt
  rcases jf with ⟨_, e1, e2, e3⟩ | ⟨h0, _⟩ | ⟨h0, _⟩ | ⟨h0, _⟩
  · obtain ⟨k, nm, m, x, r⟩ := j
    simp only at jk e1 e2 e3 jt
    subst jk e1 e2 e3
    rcases h with ⟨h1, h2, h3⟩ | ⟨h1, h2, h3⟩
    · exact ⟨by rw [hex_inj (jt.trans h3)], h1⟩
    · exact absurd jt.symm (h3 r ji.r)
  all_goals omega
theorem TailIs.hex {k : Int} (hk : k = 7 ∨ k = 8) {l : List UInt8} {n : Nat} {b : Bool} (h : ReadsHex l n b) (hn : n < 4294967296) : TailIs k (36 :: l) ⟨k, noText, sgn n, true, 0⟩ b := by
  have hs := sgn_in hn
  refine ⟨⟨by show _ ≤ k; omega, by show k ≤ _; omega, hs.1, hs.2, by show 0 < _; decide, no_size⟩, fun j ji jf jk jt => ?_⟩
  rw [tail_num (by rw [jk]; exact hk)] at jt
  rcases jf with ⟨h0, _⟩ | ⟨_, e1, e2⟩ | ⟨h0, _⟩ | ⟨h0, _⟩
  · omega
  · obtain ⟨k', nm, m, x, r⟩ := j
    have j1 := ji.n1
    have j2 := ji.n2
    simp only at jk e1 e2 jt j1 j2
    subst jk e1 e2
    cases x with
    | false => simp at jt
    | true =>
      simp only [if_true, List.cons.injEq, true_and] at jt
      rcases h with ⟨h1, h2, h3⟩ | ⟨h1, h2, h3⟩
      · have e := hex_inj (jt.trans h3)
        exact ⟨by rw [← e, sgn_low j1 j2], h1⟩
      · exact absurd jt.symm (h3 _ (lowN_lt _))
  all_goals omega
theorem TailIs.dec {k : Int} (hk : k = 7 ∨ k = 8) {c : UInt8} (hc : c ≠ 36) {l : List UInt8} {n : Int} {b : Bool} (h : Reads32 l n b) : TailIs k (c :: l) ⟨k, noText, n, false, 0⟩ b := by
  have hs := h.in32
  refine ⟨⟨by show _ ≤ k; omega, by show k ≤ _; omega, hs.1, hs.2, by show 0 < _; decide, no_size⟩, fun j ji jf jk jt => ?_⟩
  rw [tail_num (by rw [jk]; exact hk)] at jt
  rcases jf with ⟨h0, _⟩ | ⟨_, e1, e2⟩ | ⟨h0, _⟩ | ⟨h0, _⟩
  · omega
  · obtain ⟨k', nm, m, x, r⟩ := j
    have j1 := ji.n1
    have j2 := ji.n2
    simp only at jk e1 e2 jt j1 j2
    subst jk e1 e2
    cases x with
    | true => exact absurd (List.cons.inj jt).1.symm hc
    | false =>
      simp only [Bool.false_eq_true, if_false, List.cons.injEq] at jt
      rcases h with ⟨h1, h2, h3, h4⟩ | ⟨h1, h2, h3⟩
      · exact ⟨by rw [itoa_inj (jt.2.trans h4)], h1⟩
      · exact absurd jt.2.symm (h3 _ j1 j2)
  all_goals omega
theorem TailIs.var {nm : ByteArray} (hs : nm.size ≤ 4611686018427387904) {a l : List UInt8} (ha : nm.data.toList = a) (hn : (35 : UInt8) ∉ a) {n : Int} {b : Bool} (h : Reads32 l n b) : TailIs 9 (a ++ 35 :: l) ⟨9, nm, n, false, 0⟩ b := by
  have hi := h.in32
  refine ⟨⟨by show -9223372036854775808 ≤ (9 : Int); decide, by show (9 : Int) ≤ _; decide, hi.1, hi.2, by show 0 < _; decide, hs⟩, fun j ji jf jk jt => ?_⟩
  rw [tail_var jk] at jt
  rcases jf with ⟨h0, _⟩ | ⟨h0, _⟩ | ⟨_, e1, e2, e3⟩ | ⟨h0, _⟩
  · omega
  · omega
  · obtain ⟨k', nm', m, x, r⟩ := j
    have j1 := ji.n1
    have j2 := ji.n2
    simp only at jk e1 e2 e3 jt j1 j2
    subst jk e1 e2
    obtain ⟨p1, p2⟩ := split_inj (nameL_noHash e3).1 hn jt
    rcases h with ⟨h1, h2, h3, h4⟩ | ⟨h1, h2, h3⟩
    · exact ⟨by rw [itoa_inj (p2.trans h4), bytes_of_list (p1.trans ha.symm)], h1⟩
    · exact absurd p2.symm (h3 _ j1 j2)
  · omega
theorem TailIs.var_no {l : List UInt8} (hn : (35 : UInt8) ∉ l) : TailIs 9 l (rawIt 0) false := by
  refine ⟨⟨by decide, by decide, by decide, by decide, by decide, by decide⟩, fun j ji jf jk jt => ?_⟩
  rw [tail_var jk] at jt
  exact absurd (by rw [← jt]; simp) hn
theorem TailIs.word {k : Int} (hk : 1 ≤ k ∧ k ≤ 6) {nm : ByteArray} (hs : nm.size ≤ 4611686018427387904) {l : List UInt8} (hl : nm.data.toList = l) : TailIs k l ⟨k, nm, 0, false, 0⟩ true := by
  refine ⟨⟨by show _ ≤ k; omega, by show k ≤ _; omega, by show _ ≤ (0 : Int); decide, by show (0 : Int) ≤ _; decide, by show 0 < _; decide, hs⟩, fun j ji jf jk jt => ?_⟩
  rw [tail_word (by rw [jk]; exact hk)] at jt
  rcases jf with ⟨h0, _⟩ | ⟨h0, _⟩ | ⟨h0, _⟩ | ⟨_, e1, e2, e3, e4⟩
  · omega
  · omega
  · omega
  · obtain ⟨k', nm', m, x, r⟩ := j
    simp only at jk e1 e2 e3 jt
    subst jk e1 e2 e3
    exact ⟨by rw [bytes_of_list (hl.trans jt.symm)], rfl⟩

/-- No item of a kind below this one has the text. -/
def NoneBelow (l : List UInt8) (k : Int) : Prop := ∀ j : It, ItIn j → cellsOf j ≠ [] → j.kind < k → l ≠ textOf j
theorem NoneBelow.start (l : List UInt8) : NoneBelow l 0 := fun j _ h hk => by have := form_kind (form_of h); omega
theorem NoneBelow.short {l : List UInt8} (h : l.length < 2) (k : Int) : NoneBelow l k := fun j _ hc _ e => by have := text_len hc; rw [← e] at this; omega
theorem NoneBelow.mark {c : UInt8} {l : List UInt8} {k : Int} (h : NoneBelow (c :: l) k) (hc : c ≠ markOf k) : NoneBelow (c :: l) (k + 1) := fun j ji jc jk e => by
  by_cases hk : j.kind < k
  · exact h j ji jc hk e
  · rw [text_yes jc] at e
    exact hc (by rw [(List.cons.inj e).1, show j.kind = k by omega])
theorem NoneBelow.num {c d : UInt8} {l : List UInt8} {k : Int} (h : NoneBelow (c :: d :: l) k) (hc : ¬ ((d = 35 ∨ d = 36) ↔ (k = 7 ∨ k = 8))) : NoneBelow (c :: d :: l) (k + 1) := fun j ji jc jk e => by
  by_cases hk : j.kind < k
  · exact h j ji jc hk e
  · rw [text_yes jc] at e
    obtain ⟨c', l', e1, e2⟩ := tail_first (form_of jc)
    rw [e1] at e
    have := (List.cons.inj (List.cons.inj e).2).1
    rw [show j.kind = k by omega, ← this] at e2
    exact hc e2
theorem NoneBelow.tail {c : UInt8} {l : List UInt8} {k : Int} (h : NoneBelow (c :: l) k) {it : It} {b : Bool} (ht : TailIs k l it b) (hn : ¬ (b = true ∧ textOf it = c :: l)) : NoneBelow (c :: l) (k + 1) := fun j ji jc jk e => by
  by_cases hk : j.kind < k
  · exact h j ji jc hk e
  · have e0 := e
    rw [text_yes jc] at e
    obtain ⟨e1, e2⟩ := ht.2 j ji (form_of jc) (by omega) (List.cons.inj e).2.symm
    exact hn ⟨e2, by rw [e1, ← e0]⟩
theorem NoneBelow.all {l : List UInt8} (h : NoneBelow l 10) : ReadsItem l (rawIt 0) false :=
  .inr ⟨rfl, rfl, fun j ji jc => h j ji jc (by have := form_kind (form_of jc); omega)⟩
theorem reads_yes {l : List UInt8} {k : Int} {it : It} {b : Bool} (ht : TailIs k l it b) {c : UInt8} (he : textOf it = c :: l) : ReadsItem (c :: l) it true :=
  .inl ⟨rfl, fun h => (by rw [text_no h] at he; cases he), ht.1, he.symm⟩
end Go.Proofs.YtogdbfjagnbllaaGreatDoor

namespace Go.Proofs.YtogdbfjagnbllaaGreatDoor
open Go.RowKit

theorem tl_eq (s : ByteArray) : s.toList = s.data.toList := ByteArray.toList_eq s

set_option maxRecDepth 100000 in
set_option maxHeartbeats 1000000 in
theorem spec_readdec (s : ByteArray) (hs : s.size ≤ 1048576) (w : World) :
    Calls Tryz.prog 114 #[.string s] w fun e w' => ∃ n b, e = .returned (.tuple #[.int .i64 n, .bool b]) ∧ ReadsDec s.data.toList n b ∧ w = w' := by
  have hsl : s.data.toList.length = s.size := by simp
  by_cases hl : 1 ≤ s.size ∧ s.size ≤ 11
  · obtain ⟨hl1, hl2⟩ := hl
    have i1 : inB (s.size : Int) 1 11 = true := inB_true (by omega) (by omega)
    go_enter Tryz.func114, Tryz.ntmps114
    go_wp2_with (first | (go_at_call 112; refine (in_any _ _ _ _).mono ?_; rintro e w' ⟨rfl, rfl⟩))
    go_loop [4, 5] (fun n i => ∃ k : Nat, k ≤ s.size ∧ i = .int .i64 k ∧ n = .int .i64 (dval (stp (s.data.toList.take k))) ∧ (∀ c ∈ stp (s.data.toList.take k), DigB c) ∧ dval (stp (s.data.toList.take k)) < 10 ^ k) (fun _ i => s.size - (intOf i).toNat)
    case atStart => exact ⟨0, by omega, rfl, by simp [stp, dval], by simp [stp], by simp [stp, dval]⟩
    case round =>
      obtain ⟨k, hk, rfl, rfl, hall, hlt⟩ := hrel
      have hpow : 10 ^ k ≤ 10 ^ 11 := Nat.pow_le_pow_right (by decide) (by omega)
      obtain ⟨v, hv⟩ : ∃ v, dval (stp (s.data.toList.take k)) = v := ⟨_, rfl⟩
      rw [hv] at hlt ⊢
      have hvb : (v : Int) < 100000000000 := by simp only [Nat.reducePow] at hpow; omega
      have HV := Lib.hid hv
      have HA := Lib.hid hall
      have HL := Lib.hid hlt
      clear hv hpow hall hlt
      by_cases hks : k < s.size
      · have hg : s.data.toList[k]'(by omega) = s[k] := by rfl
        have HG := Lib.hid hg
        clear hg
        by_cases h45 : k = 0 ∧ (s[k].toNat = 45)
        · obtain ⟨rfl, h45⟩ := h45
          have h45' : ((s[0].toNat : Int) == 45) = true := by rw [h45]; rfl
          have e1 : stp (s.data.toList.take 1) = [] := stp_take_one (by omega) (by rw [HG.out]; exact h45)
          have HE := Lib.hid e1
          have H45 := Lib.hid h45
          clear e1 h45
          go_wp2
          go_round
          case rel => exact ⟨1, by omega, rfl, by rw [HE.out, ← HV.out]; rfl, by rw [HE.out]; simp, by rw [HE.out]; decide⟩
          case measure => simp [intOf]; omega
        · have hsn := stp_take_succ (l := s.data.toList) (k := k) (by omega) (by rw [HG.out]; exact h45)
          rw [HG.out] at hsn
          have hmem := mem_stp (l := s.data.toList) (k := k) (by omega) (by rw [HG.out]; exact h45)
          rw [HG.out] at hmem
          have h45' : k = 0 → ((s[k].toNat : Int) == 45) = false := fun hk0 => by
            have : s[k].toNat ≠ 45 := fun h => h45 ⟨hk0, h⟩
            simp; omega
          have HS := Lib.hid hsn
          have HM := Lib.hid hmem
          clear hsn hmem h45
          by_cases hd : 48 ≤ s[k].toNat ∧ s[k].toNat ≤ 57
          · have hin : inB (s[k].toNat : Int) 48 57 = true := inB_true (by omega) (by omega)
            obtain ⟨hd1, hd2⟩ := hd
            have fin : ∃ j : Nat, j ≤ s.size ∧ Value.int .i64 ((k : Int) + 1) = .int .i64 j ∧ Value.int .i64 (10 * (v : Int) + (s[k].toNat : Int) - 48) = .int .i64 (dval (stp (s.data.toList.take j))) ∧ (∀ c ∈ stp (s.data.toList.take j), DigB c) ∧ dval (stp (s.data.toList.take j)) < 10 ^ j := by
              refine ⟨k + 1, by omega, by go_num, ?_, ?_, ?_⟩
              · rw [HS.out, dval_snoc, HV.out]; congr 1; omega
              · rw [HS.out]; intro c hc
                rcases List.mem_append.1 hc with hc | hc
                · exact HA.out c hc
                · simp at hc; subst hc; exact ⟨hd1, hd2⟩
              · rw [HS.out, dval_snoc, HV.out, Nat.pow_succ]; have := HL.out; omega
            have FIN := Lib.hid fin
            clear fin
            by_cases hk0 : k = 0
            · subst hk0
              have h0 := h45' rfl
              clear h45'
              go_wp2_with (first | (go_at_call 113; refine (digit_u8 _ _).mono ?_; rintro e w' ⟨rfl, rfl⟩))
              go_round
              case rel => exact FIN.out
              case measure => simp [intOf]; omega
            · have hk0' : ((k : Int) == 0) = false := by simpa using hk0
              clear h45'
              go_wp2_with (first | (go_at_call 113; refine (digit_u8 _ _).mono ?_; rintro e w' ⟨rfl, rfl⟩))
              go_round
              case rel => exact FIN.out
              case measure => simp [intOf]; omega
          · have hin : inB (s[k].toNat : Int) 48 57 = false := inB_false (by omega)
            have no : ∀ m : Int, -9999999999 ≤ m → m ≤ 9999999999 → s.data.toList ≠ Lib.itoa m := fun m _ _ h => by
              have hm := HM.out
              rw [h, stp_itoa] at hm
              exact hd (decDigits_all _ _ hm)
            have NO := Lib.hid no
            clear no hd
            by_cases hk0 : k = 0
            · subst hk0
              have h0 := h45' rfl
              clear h45'
              go_wp2_with (first | (go_at_call 113; refine (digit_u8 _ _).mono ?_; rintro e w' ⟨rfl, rfl⟩))
              go_ret2
              exact ⟨0, false, rfl, .inr ⟨rfl, rfl, NO.out⟩, rfl⟩
            · have hk0' : ((k : Int) == 0) = false := by simpa using hk0
              clear h45'
              go_wp2_with (first | (go_at_call 113; refine (digit_u8 _ _).mono ?_; rintro e w' ⟨rfl, rfl⟩))
              go_ret2
              exact ⟨0, false, rfl, .inr ⟨rfl, rfl, NO.out⟩, rfl⟩
      · have hke : k = s.size := by omega
        have ht : s.data.toList.take k = s.data.toList := List.take_of_length_le (by omega)
        rw [ht] at HV HA
        have HK := Lib.hid hke
        clear hke ht
        have hvb2 : v < 100000000000 := by omega
        clear hvb
        have hg0 : s.data.toList[0]'(by omega) = s[0] := by rfl
        by_cases h45 : s[0].toNat = 45
        · have h45' : ((s[0].toNat : Int) == 45) = true := by rw [h45]; rfl
          obtain ⟨z, hz⟩ : ∃ z : Int, z = -(v : Int) := ⟨_, rfl⟩
          have key : ∀ m : Int, s.data.toList = Lib.itoa m → m = z := fun m hm => read_key HV.out (by omega) (by rw [hg0, if_pos h45]; exact hz) hm
          have KEY := Lib.hid key
          have hw : wrap64 (-(v : Int)) = z := by unfold wrap64; omega
          have hz1 : -9223372036854775808 ≤ z := by omega
          have hz2 : z ≤ 9223372036854775807 := by omega
          clear hz hvb2 h45 hg0 key
          by_cases hb : inB z (-9999999999) 9999999999 = true
          · have HI := Lib.hid hb
            clear hb
            by_cases he : Lib.itoa z = s.data.toList
            · have he1 : (!Lib.itoa z == s.toList) = false := by rw [tl_eq, he]; simp
              have HE := Lib.hid he
              clear he
              go_wp2_with (first | (go_at_call 112; refine (in_any _ _ _ _).mono ?_; rintro e w' ⟨he, rfl⟩; rw [HI.out] at he; subst he) | (go_at_call 71; refine (spec_dectext z hz1 hz2 _).mono ?_; rintro e w' ⟨rfl, rfl⟩))
              go_ret2
              obtain ⟨r1, r2⟩ := inB_iff.1 HI.out
              exact ⟨z, true, rfl, .inl ⟨rfl, r1, r2, HE.out.symm⟩, rfl⟩
            · have he1 : (!Lib.itoa z == s.toList) = true := by rw [tl_eq]; simpa using he
              have HE := Lib.hid he
              clear he
              go_wp2_with (first | (go_at_call 112; refine (in_any _ _ _ _).mono ?_; rintro e w' ⟨he, rfl⟩; rw [HI.out] at he; subst he) | (go_at_call 71; refine (spec_dectext z hz1 hz2 _).mono ?_; rintro e w' ⟨rfl, rfl⟩))
              go_ret2
              exact ⟨0, false, rfl, .inr ⟨rfl, rfl, fun m _ _ h => HE.out (by rw [h, KEY.out m h])⟩, rfl⟩
          · have hb' : inB z (-9999999999) 9999999999 = false := by simpa using hb
            have HI := Lib.hid hb'
            clear hb hb'
            go_wp2_with (first | (go_at_call 112; refine (in_any _ _ _ _).mono ?_; rintro e w' ⟨he, rfl⟩; rw [HI.out] at he; subst he))
            go_ret2
            exact ⟨0, false, rfl, .inr ⟨rfl, rfl, fun m r1 r2 h => by have := HI.out; rw [← KEY.out m h, inB_true r1 r2] at this; cases this⟩, rfl⟩
        · have h45' : ((s[0].toNat : Int) == 45) = false := by simp; omega
          obtain ⟨z, hz⟩ : ∃ z : Int, (v : Int) = z := ⟨_, rfl⟩
          have key : ∀ m : Int, s.data.toList = Lib.itoa m → m = z := fun m hm => read_key HV.out (by omega) (by rw [hg0, if_neg h45]; exact hz.symm) hm
          have KEY := Lib.hid key
          have hz1 : -9223372036854775808 ≤ z := by omega
          have hz2 : z ≤ 9223372036854775807 := by omega
          have hw := hz
          clear hz hvb2 h45 hg0 key
          by_cases hb : inB z (-9999999999) 9999999999 = true
          · have HI := Lib.hid hb
            clear hb
            by_cases he : Lib.itoa z = s.data.toList
            · have he1 : (!Lib.itoa z == s.toList) = false := by rw [tl_eq, he]; simp
              have HE := Lib.hid he
              clear he
              go_wp2_with (first | (go_at_call 112; refine (in_any _ _ _ _).mono ?_; rintro e w' ⟨he, rfl⟩; rw [HI.out] at he; subst he) | (go_at_call 71; refine (spec_dectext z hz1 hz2 _).mono ?_; rintro e w' ⟨rfl, rfl⟩))
              go_ret2
              obtain ⟨r1, r2⟩ := inB_iff.1 HI.out
              exact ⟨z, true, rfl, .inl ⟨rfl, r1, r2, HE.out.symm⟩, rfl⟩
            · have he1 : (!Lib.itoa z == s.toList) = true := by rw [tl_eq]; simpa using he
              have HE := Lib.hid he
              clear he
              go_wp2_with (first | (go_at_call 112; refine (in_any _ _ _ _).mono ?_; rintro e w' ⟨he, rfl⟩; rw [HI.out] at he; subst he) | (go_at_call 71; refine (spec_dectext z hz1 hz2 _).mono ?_; rintro e w' ⟨rfl, rfl⟩))
              go_ret2
              exact ⟨0, false, rfl, .inr ⟨rfl, rfl, fun m _ _ h => HE.out (by rw [h, KEY.out m h])⟩, rfl⟩
          · have hb' : inB z (-9999999999) 9999999999 = false := by simpa using hb
            have HI := Lib.hid hb'
            clear hb hb'
            go_wp2_with (first | (go_at_call 112; refine (in_any _ _ _ _).mono ?_; rintro e w' ⟨he, rfl⟩; rw [HI.out] at he; subst he))
            go_ret2
            exact ⟨0, false, rfl, .inr ⟨rfl, rfl, fun m r1 r2 h => by have := HI.out; rw [← KEY.out m h, inB_true r1 r2] at this; cases this⟩, rfl⟩
  · have i1 : inB (s.size : Int) 1 11 = false := inB_false (by omega)
    go_enter Tryz.func114, Tryz.ntmps114
    go_wp2_with (first | (go_at_call 112; refine (in_any _ _ _ _).mono ?_; rintro e w' ⟨rfl, rfl⟩))
    go_ret2
    refine ⟨0, false, rfl, .inr ⟨rfl, rfl, fun m h0 h1 h => hl ?_⟩, rfl⟩
    have e1 := itoa_len h0 h1
    have e2 := List.length_pos_iff.2 (itoa_ne m)
    rw [← h] at e1 e2
    omega
end Go.Proofs.YtogdbfjagnbllaaGreatDoor

namespace Go.Proofs.YtogdbfjagnbllaaGreatDoor
open Go.RowKit Go

/-- A number of 32 bits, read by the model. -/
def Dec32End (l : List UInt8) (w : World) (e : Ending) (w' : World) : Prop := ∃ (n : Int) (b : Bool), e = .returned (.tuple #[.int .i32 n, .bool b]) ∧ Reads32 l n b ∧ w = w'
set_option maxHeartbeats 1000000 in
theorem spec_l06dec (s : ByteArray) (hs : s.size ≤ 1048576) (w : World) : Calls Tryz.prog 88 #[.string s] w (Dec32End s.data.toList w) := by
  have HR := Lib.hid (fun W => spec_readdec s hs W)
  have HN := Lib.hid (fun n W => in_any n (-2147483648) 2147483647 W)
  clear hs
  go_enter Tryz.func88, Tryz.ntmps88
  go_wp2_with fail
  refine (HR.out _).mono ?_
  rintro e w1 ⟨n, b, rfl, hr, rfl⟩
  have H := Lib.hid hr
  clear hr
  cases b with
  | false =>
    go_wp2_with fail
    go_ret2
    exact ⟨0, false, rfl, by simpa using Reads32.of H.out (fun h => by cases h), rfl⟩
  | true =>
    go_wp2_with fail
    refine (HN.out _ _).mono ?_
    rintro e w1 ⟨rfl, rfl⟩
    by_cases hin : -2147483648 ≤ n ∧ n ≤ 2147483647
    · rw [inB_true hin.1 hin.2]
      have hw : IntKind.i32.wrap n = n := by rw [IntKind.wrap_i32]; omega
      have HI := Lib.hid hin
      clear hin
      go_wp2_with fail
      go_ret2
      exact ⟨n, true, by first | rw [hw] | rfl, by simpa using Reads32.of H.out (fun _ => HI.out), rfl⟩
    · rw [inB_false hin]
      have HI := Lib.hid hin
      clear hin
      go_wp2_with fail
      go_ret2
      exact ⟨0, false, rfl, Reads32.out H.out HI.out, rfl⟩

/-- What the model reads behind a mark. -/
def TailEnd (k : Int) (l : List UInt8) (w : World) (e : Ending) (w' : World) : Prop := ∃ (it : It) (b : Bool), e = .returned (.tuple #[itVal it, .bool b]) ∧ TailIs k l it b ∧ Below w.heap.size w w'
theorem TailEnd.of {k : Int} {l : List UInt8} {w w' : World} {it : It} {b : Bool} (h : TailIs k l it b) (hb : Below w.heap.size w w') : TailEnd k l w (.returned (.tuple #[itVal it, .bool b])) w' := ⟨it, b, rfl, h, hb⟩
theorem sgn_wrap32 {n : Nat} (h : n < 4294967296) : IntKind.i32.wrap (n : Int) = sgn n := by rw [IntKind.wrap_i32]; unfold sgn; split <;> omega
theorem drop1 {s : ByteArray} {c : UInt8} {l : List UInt8} (h : s.data.toList = c :: l) : (s.extract 1 s.size).data.toList = l := by
  have e2 : s.data.toList.length = s.size := by simp
  rw [h] at e2
  simp only [List.length_cons] at e2
  simp only [ByteArray.data_extract, Array.toList_extract, h, List.extract]
  exact List.take_of_length_le (by simp only [List.drop_succ_cons, List.drop_zero]; omega)
theorem drop1_size {s : ByteArray} {B : Nat} (h : s.size ≤ B) : (s.extract 1 s.size).size ≤ B := by simp; omega
theorem first_is {s : ByteArray} {c : UInt8} {l : List UInt8} (h : s.data.toList = c :: l) (hs : 0 < s.size) : s[0] = c := by
  have h1 : s.data.toList[0]'(by rw [h]; simp) = s[0] := rfl
  rw [← h1]; simp [h]

set_option maxRecDepth 100000 in
set_option maxHeartbeats 4000000 in
theorem tail_walk_raw (s : ByteArray) (hs : s.size ≤ 1048576) (w : World) : Calls Tryz.prog 59 #[.int .i64 0, .string s] w (TailEnd 0 s.data.toList w) := by
  have HH := Lib.hid (fun W => spec_readhex s hs W)
  clear hs
  go_enter Tryz.func59, Tryz.ntmps59
  go_wp2_with fail
  refine (HH.out _).mono ?_
  rintro e w1 ⟨n, b, rfl, hr, hb1⟩
  have hn : n < 4294967296 := by rcases hr with ⟨_, h, _⟩ | ⟨_, h, _⟩ <;> omega
  have HT := Lib.hid (TailIs.raw hr hn)
  obtain ⟨k1, k2, hB, hz⟩ := two_boxes hb1
  have k1 : Blk w1 w.heap.size 38 (itC 0 ⟨#[]⟩ 0 false 0) := k1
  have k2 : Blk w1 (w.heap.size + 1) 38 (itC 0 ⟨#[]⟩ 0 false 0) := k2
  have hne : w.heap.size ≠ w.heap.size + 1 := by omega
  have hne' : w.heap.size + 1 ≠ w.heap.size := by omega
  have hz1 : w.heap.size + 1 < w1.heap.size := by omega
  have k3 : Blk (w1.setCell ⟨w.heap.size + 1, 4, none⟩ (.int .u32 (n : Int))) (w.heap.size + 1) 38 (itC 0 ⟨#[]⟩ 0 false (n : Int)) := k2.put 4 (.int .u32 (n : Int))
  have r3 := k1.far (p := ⟨w.heap.size + 1, 4, none⟩) hne (.int .u32 (n : Int))
  have hb3 := hB.setCell (p := ⟨w.heap.size + 1, 4, none⟩) (Nat.le_succ _) (.int .u32 (n : Int))
  obtain ⟨c0, c1, c2, c3, c4, f0, f1, f2, f3, f4⟩ := itC_cells k2
  obtain ⟨d0, d1, d2, d3, d4, q0, q1, q2, q3, q4⟩ := itC_cells k3
  obtain ⟨p0, p1, p2, p3, p4, t0, t1, t2, t3, t4⟩ := itC_cells r3
  have R3 := Lib.hid r3
  have HB3 := Lib.hid hb3
  clear hr hn hb1 k1 k2 hB hz k3 r3 hb3
  go_wp2_with fail
  have hk := putIt_blk R3.out 0 ⟨#[]⟩ 0 false (n : Int)
  have hbl := putIt_below (g := w.heap.size) HB3.out (Nat.le_refl _) 0 ⟨#[]⟩ 0 false (n : Int)
  show bodyPost _ _ _ _ _ (putIt _ _ 0 ⟨#[]⟩ 0 false (n : Int))
  generalize putIt _ _ 0 ⟨#[]⟩ 0 false (n : Int) = W5 at hk hbl ⊢
  obtain ⟨e0, e1, e2, e3, e4, -⟩ := itC_cells hk
  clear hk
  exact bodyPost_ret (v := .tuple #[itA 0 ⟨#[]⟩ 0 false (n : Int), .bool b]) (by simp [results, Tryz.results59, e0, e1, e2, e3, e4, go_sem]) rfl (TailEnd.of (it := ⟨0, ⟨#[]⟩, 0, false, n⟩) HT.out hbl)

theorem spec_l06decB (s : ByteArray) (hs : s.size ≤ 1048576) (w : World) : Calls Tryz.prog 88 #[.string s] w fun e w' => ∃ (n : Int) (b : Bool), e = .returned (.tuple #[.int .i32 n, .bool b]) ∧ Reads32 s.data.toList n b ∧ Below w.heap.size w w' :=
  (spec_l06dec s hs w).mono fun _ _ ⟨n, b, h1, h2, h3⟩ => ⟨n, b, h1, h2, h3 ▸ Below.refl _ _⟩

set_option maxRecDepth 100000 in
set_option maxHeartbeats 4000000 in
theorem tail_walk_word (k : Int) (hk : 1 ≤ k ∧ k ≤ 6) (s : ByteArray) (hs : s.size ≤ 1048576) (w : World) : Calls Tryz.prog 59 #[.int .i64 k, .string s] w (TailEnd k s.data.toList w) := by
  have HT := Lib.hid (TailIs.word hk (nm := s) (by omega) rfl)
  have e0 : (k == 0) = false := by simp; omega
  have e7 : (k == 7) = false := by simp; omega
  have e8 : (k == 8) = false := by simp; omega
  have e9 : (k == 9) = false := by simp; omega
  have HZ := Lib.hid (two_boxes (w := w) (cs1 := itC k s 0 false 0) (cs2 := itC k s 0 false 0) (t1 := 38) (t2 := 38) (Below.refl _ _))
  clear hk hs
  go_enter Tryz.func59, Tryz.ntmps59
  go_wp2_with fail
  have hk := HZ.out.1
  have hbl := HZ.out.2.2.1
  show bodyPost _ _ _ _ _ ((w.alloc (.cells (itC k s 0 false 0) 38)).alloc (.cells (itC k s 0 false 0) 38))
  generalize (w.alloc (.cells (itC k s 0 false 0) 38)).alloc (.cells (itC k s 0 false 0) 38) = W5 at hk hbl ⊢
  obtain ⟨e0, e1, e2, e3, e4, -⟩ := itC_cells hk
  clear hk
  exact bodyPost_ret (v := .tuple #[itA k s 0 false 0, .bool true]) (by simp [results, Tryz.results59, e0, e1, e2, e3, e4, go_sem]) rfl (TailEnd.of (it := ⟨k, s, 0, false, 0⟩) HT.out hbl)

set_option maxRecDepth 100000 in
set_option maxHeartbeats 4000000 in
theorem tail_walk_hex7 (s : ByteArray) (hs0 : 0 < s.size) (hs : s.size ≤ 1048576) (l : List UInt8) (hl : s.data.toList = 36 :: l) (w : World) : Calls Tryz.prog 59 #[.int .i64 7, .string s] w (TailEnd 7 s.data.toList w) := by
  have h36 : ((s[0].toNat : Int) == 36) = true := by rw [first_is hl hs0]; rfl
  obtain ⟨t, ht⟩ : ∃ t : ByteArray, s.extract 1 s.size = t := ⟨_, rfl⟩
  have htl : t.data.toList = l := by rw [← ht]; exact drop1 hl
  have HH := Lib.hid (fun W => spec_readhex t (by rw [← ht]; exact drop1_size hs) W)
  rw [htl] at HH
  rw [hl]
  clear hs htl hl
  go_enter Tryz.func59, Tryz.ntmps59
  go_wp2_with fail
  refine (HH.out _).mono ?_
  rintro e w1 ⟨n, b, rfl, hr, hb1⟩
  have hn : n < 4294967296 := by rcases hr with ⟨_, h, _⟩ | ⟨_, h, _⟩ <;> omega
  have hz32 := sgn_wrap32 hn
  have HT := Lib.hid (TailIs.hex (k := 7) (by decide) hr hn)
  clear hr hn
  obtain ⟨k1, k2, hB, hz⟩ := two_boxes hb1
  have k1 : Blk w1 w.heap.size 38 (itC 0 ⟨#[]⟩ 0 false 0) := k1
  have k2 : Blk w1 (w.heap.size + 1) 38 (itC 7 ⟨#[]⟩ 0 false 0) := k2
  have hne : w.heap.size ≠ w.heap.size + 1 := by omega
  have hne' : w.heap.size + 1 ≠ w.heap.size := by omega
  have hz1 : w.heap.size + 1 < w1.heap.size := by omega
  obtain ⟨c0, c1, c2, c3, c4, f0, f1, f2, f3, f4⟩ := itC_cells k2
  obtain ⟨a0, a1, a2, a3, a4, b0, b1, b2, b3, b4⟩ := itC_cells k1
  have kk0 : Blk (w1.setCell ⟨w.heap.size + 1, 3, none⟩ (.bool true)) (w.heap.size + 1) 38 (itC 7 ⟨#[]⟩ 0 true 0) := k2.put 3 (.bool true)
  have rr0 := k1.far (p := ⟨w.heap.size + 1, 3, none⟩) hne (.bool true)
  have bb0 := hB.setCell (p := ⟨w.heap.size + 1, 3, none⟩) (Nat.le_succ _) (.bool true)
  obtain ⟨d00, d01, d02, d03, d04, q00, q01, q02, q03, q04⟩ := itC_cells kk0
  obtain ⟨p00, p01, p02, p03, p04, t00, t01, t02, t03, t04⟩ := itC_cells rr0
  have kk1 : Blk ((w1.setCell ⟨w.heap.size + 1, 3, none⟩ (.bool true)).setCell ⟨w.heap.size + 1, 2, none⟩ (.int .i32 (sgn n))) (w.heap.size + 1) 38 (itC 7 ⟨#[]⟩ (sgn n) true 0) := kk0.put 2 (.int .i32 (sgn n))
  have rr1 := rr0.far (p := ⟨w.heap.size + 1, 2, none⟩) hne (.int .i32 (sgn n))
  have bb1 := bb0.setCell (p := ⟨w.heap.size + 1, 2, none⟩) (Nat.le_succ _) (.int .i32 (sgn n))
  obtain ⟨d10, d11, d12, d13, d14, q10, q11, q12, q13, q14⟩ := itC_cells kk1
  obtain ⟨p10, p11, p12, p13, p14, t10, t11, t12, t13, t14⟩ := itC_cells rr1
  have R3 := Lib.hid rr1
  have HB3 := Lib.hid bb1
  clear hb1 k1 k2 hB hz kk0 rr0 bb0 kk1 rr1 bb1
  go_wp2_with fail
  have hk := putIt_blk R3.out 7 ⟨#[]⟩ (sgn n) true 0
  have hbl := putIt_below (g := w.heap.size) HB3.out (Nat.le_refl _) 7 ⟨#[]⟩ (sgn n) true 0
  show bodyPost _ _ _ _ _ (putIt _ _ 7 ⟨#[]⟩ (sgn n) true 0)
  generalize putIt _ _ 7 ⟨#[]⟩ (sgn n) true 0 = W5 at hk hbl ⊢
  obtain ⟨e0, e1, e2, e3, e4, -⟩ := itC_cells hk
  clear hk
  exact bodyPost_ret (v := .tuple #[itA 7 ⟨#[]⟩ (sgn n) true 0, .bool b]) (by simp [results, Tryz.results59, e0, e1, e2, e3, e4, go_sem]) rfl (TailEnd.of (it := ⟨7, ⟨#[]⟩, sgn n, true, 0⟩) HT.out hbl)

set_option maxRecDepth 100000 in
set_option maxHeartbeats 4000000 in
theorem tail_walk_dec7 (s : ByteArray) (hs0 : 0 < s.size) (hs : s.size ≤ 1048576) (c : UInt8) (hc : c ≠ 36) (l : List UInt8) (hl : s.data.toList = c :: l) (w : World) : Calls Tryz.prog 59 #[.int .i64 7, .string s] w (TailEnd 7 s.data.toList w) := by
  have h36 : ((s[0].toNat : Int) == 36) = false := by
    rw [first_is hl hs0]
    simp only [beq_eq_false_iff_ne, ne_eq]
    intro e
    exact hc (UInt8.toNat_inj.1 (by show c.toNat = 36; omega))
  obtain ⟨t, ht⟩ : ∃ t : ByteArray, s.extract 1 s.size = t := ⟨_, rfl⟩
  have htl : t.data.toList = l := by rw [← ht]; exact drop1 hl
  have HH := Lib.hid (fun W => spec_l06decB t (by rw [← ht]; exact drop1_size hs) W)
  rw [htl] at HH
  rw [hl]
  have HC := Lib.hid hc
  clear hs htl hl hc
  go_enter Tryz.func59, Tryz.ntmps59
  go_wp2_with fail
  refine (HH.out _).mono ?_
  rintro e w1 ⟨n, b, rfl, hr, hb1⟩
  have HT := Lib.hid (TailIs.dec (k := 7) (by decide) HC.out hr)
  clear hr
  obtain ⟨k1, k2, hB, hz⟩ := two_boxes hb1
  have k1 : Blk w1 w.heap.size 38 (itC 0 ⟨#[]⟩ 0 false 0) := k1
  have k2 : Blk w1 (w.heap.size + 1) 38 (itC 7 ⟨#[]⟩ 0 false 0) := k2
  have hne : w.heap.size ≠ w.heap.size + 1 := by omega
  have hne' : w.heap.size + 1 ≠ w.heap.size := by omega
  have hz1 : w.heap.size + 1 < w1.heap.size := by omega
  obtain ⟨c0, c1, c2, c3, c4, f0, f1, f2, f3, f4⟩ := itC_cells k2
  obtain ⟨a0, a1, a2, a3, a4, b0, b1, b2, b3, b4⟩ := itC_cells k1
  have kk0 : Blk (w1.setCell ⟨w.heap.size + 1, 2, none⟩ (.int .i32 n)) (w.heap.size + 1) 38 (itC 7 ⟨#[]⟩ n false 0) := k2.put 2 (.int .i32 n)
  have rr0 := k1.far (p := ⟨w.heap.size + 1, 2, none⟩) hne (.int .i32 n)
  have bb0 := hB.setCell (p := ⟨w.heap.size + 1, 2, none⟩) (Nat.le_succ _) (.int .i32 n)
  obtain ⟨d00, d01, d02, d03, d04, q00, q01, q02, q03, q04⟩ := itC_cells kk0
  obtain ⟨p00, p01, p02, p03, p04, t00, t01, t02, t03, t04⟩ := itC_cells rr0
  have R3 := Lib.hid rr0
  have HB3 := Lib.hid bb0
  clear hb1 k1 k2 hB hz kk0 rr0 bb0
  go_wp2_with fail
  have hk := putIt_blk R3.out 7 ⟨#[]⟩ n false 0
  have hbl := putIt_below (g := w.heap.size) HB3.out (Nat.le_refl _) 7 ⟨#[]⟩ n false 0
  show bodyPost _ _ _ _ _ (putIt _ _ 7 ⟨#[]⟩ n false 0)
  generalize putIt _ _ 7 ⟨#[]⟩ n false 0 = W5 at hk hbl ⊢
  obtain ⟨e0, e1, e2, e3, e4, -⟩ := itC_cells hk
  clear hk
  exact bodyPost_ret (v := .tuple #[itA 7 ⟨#[]⟩ n false 0, .bool b]) (by simp [results, Tryz.results59, e0, e1, e2, e3, e4, go_sem]) rfl (TailEnd.of (it := ⟨7, ⟨#[]⟩, n, false, 0⟩) HT.out hbl)

set_option maxRecDepth 100000 in
set_option maxHeartbeats 4000000 in
theorem tail_walk_hex8 (s : ByteArray) (hs0 : 0 < s.size) (hs : s.size ≤ 1048576) (l : List UInt8) (hl : s.data.toList = 36 :: l) (w : World) : Calls Tryz.prog 59 #[.int .i64 8, .string s] w (TailEnd 8 s.data.toList w) := by
  have h36 : ((s[0].toNat : Int) == 36) = true := by rw [first_is hl hs0]; rfl
  obtain ⟨t, ht⟩ : ∃ t : ByteArray, s.extract 1 s.size = t := ⟨_, rfl⟩
  have htl : t.data.toList = l := by rw [← ht]; exact drop1 hl
  have HH := Lib.hid (fun W => spec_readhex t (by rw [← ht]; exact drop1_size hs) W)
  rw [htl] at HH
  rw [hl]
  clear hs htl hl
  go_enter Tryz.func59, Tryz.ntmps59
  go_wp2_with fail
  refine (HH.out _).mono ?_
  rintro e w1 ⟨n, b, rfl, hr, hb1⟩
  have hn : n < 4294967296 := by rcases hr with ⟨_, h, _⟩ | ⟨_, h, _⟩ <;> omega
  have hz32 := sgn_wrap32 hn
  have HT := Lib.hid (TailIs.hex (k := 8) (by decide) hr hn)
  clear hr hn
  obtain ⟨k1, k2, hB, hz⟩ := two_boxes hb1
  have k1 : Blk w1 w.heap.size 38 (itC 0 ⟨#[]⟩ 0 false 0) := k1
  have k2 : Blk w1 (w.heap.size + 1) 38 (itC 8 ⟨#[]⟩ 0 false 0) := k2
  have hne : w.heap.size ≠ w.heap.size + 1 := by omega
  have hne' : w.heap.size + 1 ≠ w.heap.size := by omega
  have hz1 : w.heap.size + 1 < w1.heap.size := by omega
  obtain ⟨c0, c1, c2, c3, c4, f0, f1, f2, f3, f4⟩ := itC_cells k2
  obtain ⟨a0, a1, a2, a3, a4, b0, b1, b2, b3, b4⟩ := itC_cells k1
  have kk0 : Blk (w1.setCell ⟨w.heap.size + 1, 3, none⟩ (.bool true)) (w.heap.size + 1) 38 (itC 8 ⟨#[]⟩ 0 true 0) := k2.put 3 (.bool true)
  have rr0 := k1.far (p := ⟨w.heap.size + 1, 3, none⟩) hne (.bool true)
  have bb0 := hB.setCell (p := ⟨w.heap.size + 1, 3, none⟩) (Nat.le_succ _) (.bool true)
  obtain ⟨d00, d01, d02, d03, d04, q00, q01, q02, q03, q04⟩ := itC_cells kk0
  obtain ⟨p00, p01, p02, p03, p04, t00, t01, t02, t03, t04⟩ := itC_cells rr0
  have kk1 : Blk ((w1.setCell ⟨w.heap.size + 1, 3, none⟩ (.bool true)).setCell ⟨w.heap.size + 1, 2, none⟩ (.int .i32 (sgn n))) (w.heap.size + 1) 38 (itC 8 ⟨#[]⟩ (sgn n) true 0) := kk0.put 2 (.int .i32 (sgn n))
  have rr1 := rr0.far (p := ⟨w.heap.size + 1, 2, none⟩) hne (.int .i32 (sgn n))
  have bb1 := bb0.setCell (p := ⟨w.heap.size + 1, 2, none⟩) (Nat.le_succ _) (.int .i32 (sgn n))
  obtain ⟨d10, d11, d12, d13, d14, q10, q11, q12, q13, q14⟩ := itC_cells kk1
  obtain ⟨p10, p11, p12, p13, p14, t10, t11, t12, t13, t14⟩ := itC_cells rr1
  have R3 := Lib.hid rr1
  have HB3 := Lib.hid bb1
  clear hb1 k1 k2 hB hz kk0 rr0 bb0 kk1 rr1 bb1
  go_wp2_with fail
  have hk := putIt_blk R3.out 8 ⟨#[]⟩ (sgn n) true 0
  have hbl := putIt_below (g := w.heap.size) HB3.out (Nat.le_refl _) 8 ⟨#[]⟩ (sgn n) true 0
  show bodyPost _ _ _ _ _ (putIt _ _ 8 ⟨#[]⟩ (sgn n) true 0)
  generalize putIt _ _ 8 ⟨#[]⟩ (sgn n) true 0 = W5 at hk hbl ⊢
  obtain ⟨e0, e1, e2, e3, e4, -⟩ := itC_cells hk
  clear hk
  exact bodyPost_ret (v := .tuple #[itA 8 ⟨#[]⟩ (sgn n) true 0, .bool b]) (by simp [results, Tryz.results59, e0, e1, e2, e3, e4, go_sem]) rfl (TailEnd.of (it := ⟨8, ⟨#[]⟩, sgn n, true, 0⟩) HT.out hbl)

set_option maxRecDepth 100000 in
set_option maxHeartbeats 4000000 in
theorem tail_walk_dec8 (s : ByteArray) (hs0 : 0 < s.size) (hs : s.size ≤ 1048576) (c : UInt8) (hc : c ≠ 36) (l : List UInt8) (hl : s.data.toList = c :: l) (w : World) : Calls Tryz.prog 59 #[.int .i64 8, .string s] w (TailEnd 8 s.data.toList w) := by
  have h36 : ((s[0].toNat : Int) == 36) = false := by
    rw [first_is hl hs0]
    simp only [beq_eq_false_iff_ne, ne_eq]
    intro e
    exact hc (UInt8.toNat_inj.1 (by show c.toNat = 36; omega))
  obtain ⟨t, ht⟩ : ∃ t : ByteArray, s.extract 1 s.size = t := ⟨_, rfl⟩
  have htl : t.data.toList = l := by rw [← ht]; exact drop1 hl
  have HH := Lib.hid (fun W => spec_l06decB t (by rw [← ht]; exact drop1_size hs) W)
  rw [htl] at HH
  rw [hl]
  have HC := Lib.hid hc
  clear hs htl hl hc
  go_enter Tryz.func59, Tryz.ntmps59
  go_wp2_with fail
  refine (HH.out _).mono ?_
  rintro e w1 ⟨n, b, rfl, hr, hb1⟩
  have HT := Lib.hid (TailIs.dec (k := 8) (by decide) HC.out hr)
  clear hr
  obtain ⟨k1, k2, hB, hz⟩ := two_boxes hb1
  have k1 : Blk w1 w.heap.size 38 (itC 0 ⟨#[]⟩ 0 false 0) := k1
  have k2 : Blk w1 (w.heap.size + 1) 38 (itC 8 ⟨#[]⟩ 0 false 0) := k2
  have hne : w.heap.size ≠ w.heap.size + 1 := by omega
  have hne' : w.heap.size + 1 ≠ w.heap.size := by omega
  have hz1 : w.heap.size + 1 < w1.heap.size := by omega
  obtain ⟨c0, c1, c2, c3, c4, f0, f1, f2, f3, f4⟩ := itC_cells k2
  obtain ⟨a0, a1, a2, a3, a4, b0, b1, b2, b3, b4⟩ := itC_cells k1
  have kk0 : Blk (w1.setCell ⟨w.heap.size + 1, 2, none⟩ (.int .i32 n)) (w.heap.size + 1) 38 (itC 8 ⟨#[]⟩ n false 0) := k2.put 2 (.int .i32 n)
  have rr0 := k1.far (p := ⟨w.heap.size + 1, 2, none⟩) hne (.int .i32 n)
  have bb0 := hB.setCell (p := ⟨w.heap.size + 1, 2, none⟩) (Nat.le_succ _) (.int .i32 n)
  obtain ⟨d00, d01, d02, d03, d04, q00, q01, q02, q03, q04⟩ := itC_cells kk0
  obtain ⟨p00, p01, p02, p03, p04, t00, t01, t02, t03, t04⟩ := itC_cells rr0
  have R3 := Lib.hid rr0
  have HB3 := Lib.hid bb0
  clear hb1 k1 k2 hB hz kk0 rr0 bb0
  go_wp2_with fail
  have hk := putIt_blk R3.out 8 ⟨#[]⟩ n false 0
  have hbl := putIt_below (g := w.heap.size) HB3.out (Nat.le_refl _) 8 ⟨#[]⟩ n false 0
  show bodyPost _ _ _ _ _ (putIt _ _ 8 ⟨#[]⟩ n false 0)
  generalize putIt _ _ 8 ⟨#[]⟩ n false 0 = W5 at hk hbl ⊢
  obtain ⟨e0, e1, e2, e3, e4, -⟩ := itC_cells hk
  clear hk
  exact bodyPost_ret (v := .tuple #[itA 8 ⟨#[]⟩ n false 0, .bool b]) (by simp [results, Tryz.results59, e0, e1, e2, e3, e4, go_sem]) rfl (TailEnd.of (it := ⟨8, ⟨#[]⟩, n, false, 0⟩) HT.out hbl)

theorem hash_at {a m : List UInt8} {s : ByteArray} (hl : s.data.toList = a ++ 35 :: m) (h : a.length < s.size) : s[a.length] = 35 := by
  have h1 : s.data.toList[a.length]'(by rw [hl]; simp) = s[a.length] := rfl
  rw [← h1]; simp [hl]
theorem not_hash {a m : List UInt8} {s : ByteArray} (hl : s.data.toList = a ++ m) (hn : (35 : UInt8) ∉ a) {i : Nat} (hi : i < a.length) (h : i < s.size) : ((s[i].toNat : Int) == 35) = false := by
  have h1 : s.data.toList[i]'(by rw [hl]; simp; omega) = s[i] := rfl
  have h2 : s[i] ∈ a := by
    rw [← h1]
    simp only [hl, List.getElem_append_left hi]
    exact List.getElem_mem _
  simp only [beq_eq_false_iff_ne, ne_eq]
  intro e
  have : s[i] = 35 := UInt8.toNat_inj.1 (by show s[i].toNat = 35; omega)
  exact hn (this ▸ h2)
theorem take_is {a m : List UInt8} {s : ByteArray} (hl : s.data.toList = a ++ m) : (s.extract 0 a.length).data.toList = a := by
  simp [ByteArray.data_extract, Array.toList_extract, hl, List.extract]
theorem drop_is {a m : List UInt8} {s : ByteArray} (hl : s.data.toList = a ++ 35 :: m) : (s.extract (a.length + 1) s.size).data.toList = m := by
  have e2 : s.data.toList.length = s.size := by simp
  rw [hl] at e2
  simp only [List.length_append, List.length_cons] at e2
  simp only [ByteArray.data_extract, Array.toList_extract, hl, List.extract]
  rw [show a ++ 35 :: m = (a ++ [35]) ++ m by simp, List.drop_left' (by simp)]
  exact List.take_of_length_le (by omega)

set_option maxRecDepth 100000 in
set_option maxHeartbeats 4000000 in
theorem tail_walk_var (s : ByteArray) (hs : s.size ≤ 1048576) (a m : List UInt8) (hl : s.data.toList = a ++ 35 :: m) (hn : (35 : UInt8) ∉ a) (w : World) : Calls Tryz.prog 59 #[.int .i64 9, .string s] w (TailEnd 9 s.data.toList w) := by
  have hsl : s.data.toList.length = s.size := by simp
  have hlen : a.length < s.size := by rw [← hsl, hl]; simp
  have hat := hash_at hl hlen
  have HN : Hid (∀ i : Nat, i < a.length → ∀ h : i < s.size, ((s[i].toNat : Int) == 35) = false) := Lib.hid fun i hi h => not_hash hl hn hi h
  obtain ⟨t, ht⟩ : ∃ t : ByteArray, s.extract (a.length + 1) s.size = t := ⟨_, rfl⟩
  obtain ⟨u, hu⟩ : ∃ u : ByteArray, s.extract 0 a.length = u := ⟨_, rfl⟩
  have htl : t.data.toList = m := by rw [← ht]; exact drop_is hl
  have HUL : Hid (u.data.toList = a) := Lib.hid (by rw [← hu]; exact take_is hl)
  have HUS : Hid (u.size ≤ 4611686018427387904) := Lib.hid (by rw [← hu]; simp; omega)
  have HH := Lib.hid (fun W => spec_l06decB t (by rw [← ht]; simp; omega) W)
  rw [htl] at HH
  rw [hl]
  have HA := Lib.hid hn
  obtain ⟨p, hp⟩ : ∃ p : Nat, a.length = p := ⟨_, rfl⟩
  simp only [hp] at hlen hat HN ht hu
  clear hsl htl hl hn
  go_enter Tryz.func59, Tryz.ntmps59
  go_wp2_with fail
  go_loop [10] (fun vi => ∃ k : Nat, k ≤ p ∧ vi = .int .i64 k) (fun vi => p - (intOf vi).toNat)
  case atStart => exact ⟨0, Nat.zero_le _, rfl⟩
  case round =>
    obtain ⟨k, hk, rfl⟩ := hrel
    have hks : k < s.size := by omega
    by_cases hkp : k < p
    · have h35 := HN.out k hkp hks
      go_wp2_with fail
      go_round
      case rel => exact ⟨k + 1, by omega, by go_num⟩
      case measure => simp [intOf]; omega
    · obtain rfl : k = p := by omega
      have h35 : ((s[k].toNat : Int) == 35) = true := by rw [hat]; rfl
      have hend : ((k : Int) == (s.size : Int)) = false := by simp; omega
      have i1 : (k : Int) + 1 ≤ (s.size : Int) := by omega
      clear hk hkp hat HN
      go_wp2_with fail
      refine (HH.out _).mono ?_
      rintro e w1 ⟨n, b, rfl, hr, hb1⟩
      have HT := Lib.hid (TailIs.var HUS.out HUL.out HA.out hr)
      have hb2 : Below ((w.alloc (.cells (itC 0 ⟨#[]⟩ 0 false 0) 38)).alloc (.cells (itC 9 u 0 false 0) 38)).heap.size ((w.alloc (.cells (itC 0 ⟨#[]⟩ 0 false 0) 38)).alloc (.cells (itC 9 u 0 false 0) 38)) w1 := hb1
      obtain ⟨k1, k2, hB, hz⟩ := two_boxes hb2
      have k1 : Blk w1 w.heap.size 38 (itC 0 ⟨#[]⟩ 0 false 0) := k1
      have k2 : Blk w1 (w.heap.size + 1) 38 (itC 9 u 0 false 0) := k2
      have hne : w.heap.size ≠ w.heap.size + 1 := by omega
      have hne' : w.heap.size + 1 ≠ w.heap.size := by omega
      have hz1 : w.heap.size + 1 < w1.heap.size := by omega
      clear hr hb2
      obtain ⟨c0, c1, c2, c3, c4, f0, f1, f2, f3, f4⟩ := itC_cells k2
      obtain ⟨a0, a1, a2, a3, a4, b0, b1, b2, b3, b4⟩ := itC_cells k1
      have kk0 : Blk (w1.setCell ⟨w.heap.size + 1, 2, none⟩ (.int .i32 n)) (w.heap.size + 1) 38 (itC 9 u n false 0) := k2.put 2 (.int .i32 n)
      have rr0 := k1.far (p := ⟨w.heap.size + 1, 2, none⟩) hne (.int .i32 n)
      have bb0 := hB.setCell (p := ⟨w.heap.size + 1, 2, none⟩) (Nat.le_succ _) (.int .i32 n)
      obtain ⟨d00, d01, d02, d03, d04, q00, q01, q02, q03, q04⟩ := itC_cells kk0
      obtain ⟨p00, p01, p02, p03, p04, t00, t01, t02, t03, t04⟩ := itC_cells rr0
      have R3 := Lib.hid rr0
      have HB3 := Lib.hid bb0
      clear hb1 k1 k2 hB hz kk0 rr0 bb0

      go_wp2_with fail
      have hk := putIt_blk R3.out 9 u n false 0
      have hbl := putIt_below (g := w.heap.size) HB3.out (Nat.le_refl _) 9 u n false 0
      show bodyPost _ _ _ _ _ (putIt _ _ 9 u n false 0)
      generalize putIt _ _ 9 u n false 0 = W5 at hk hbl ⊢
      obtain ⟨e0, e1, e2, e3, e4, -⟩ := itC_cells hk
      clear hk
      exact bodyPost_ret (v := .tuple #[itA 9 u n false 0, .bool b]) (by simp [results, Tryz.results59, e0, e1, e2, e3, e4, go_sem]) rfl (TailEnd.of (it := ⟨9, u, n, false, 0⟩) HT.out hbl)


set_option maxRecDepth 100000 in
set_option maxHeartbeats 4000000 in
theorem tail_walk_novar (s : ByteArray) (hs : s.size ≤ 1048576) (hn : (35 : UInt8) ∉ s.data.toList) (w : World) : Calls Tryz.prog 59 #[.int .i64 9, .string s] w (TailEnd 9 s.data.toList w) := by
  have hsl : s.data.toList.length = s.size := by simp
  have HN : Hid (∀ i : Nat, ∀ h : i < s.size, ((s[i].toNat : Int) == 35) = false) := Lib.hid fun i h => not_hash (a := s.data.toList) (m := []) (by simp) hn (by omega) h
  have HT := Lib.hid (TailIs.var_no hn)
  have HZ := Lib.hid (two_boxes (w := w) (cs1 := itC 0 ⟨#[]⟩ 0 false 0) (cs2 := itC 9 ⟨#[]⟩ 0 false 0) (t1 := 38) (t2 := 38) (Below.refl _ _))
  clear hsl hn
  go_enter Tryz.func59, Tryz.ntmps59
  go_wp2_with fail
  go_loop [10] (fun vi => ∃ k : Nat, k ≤ s.size ∧ vi = .int .i64 k) (fun vi => s.size - (intOf vi).toNat)
  case atStart => exact ⟨0, Nat.zero_le _, rfl⟩
  case round =>
    obtain ⟨k, hk, rfl⟩ := hrel
    by_cases hks : k < s.size
    · have h35 := HN.out k hks
      go_wp2_with fail
      go_round
      case rel => exact ⟨k + 1, by omega, by go_num⟩
      case measure => simp [intOf]; omega
    · have hkk : k = s.size := by omega
      subst hkk
      have hend : ((s.size : Int) == (s.size : Int)) = true := by simp
      clear hk hks
      go_wp2_with fail
      have hk := HZ.out.1
      have hbl := HZ.out.2.2.1
      show bodyPost _ _ _ _ _ ((w.alloc (.cells (itC 0 ⟨#[]⟩ 0 false 0) 38)).alloc (.cells (itC 9 ⟨#[]⟩ 0 false 0) 38))
      generalize (w.alloc (.cells (itC 0 ⟨#[]⟩ 0 false 0) 38)).alloc (.cells (itC 9 ⟨#[]⟩ 0 false 0) 38) = W5 at hk hbl ⊢
      obtain ⟨e0, e1, e2, e3, e4, -⟩ := itC_cells hk
      clear hk
      exact bodyPost_ret (v := .tuple #[itA 0 ⟨#[]⟩ 0 false 0, .bool false]) (by simp [results, Tryz.results59, e0, e1, e2, e3, e4, go_sem]) rfl (TailEnd.of (it := rawIt 0) HT.out hbl)

/-- Behind a mark, kind by kind. -/
theorem spec_tail (k : Int) (hk : 0 ≤ k ∧ k ≤ 9) (s : ByteArray) (hs0 : 0 < s.size) (hs : s.size ≤ 1048576) (w : World) : Calls Tryz.prog 59 #[.int .i64 k, .string s] w (TailEnd k s.data.toList w) := by
  obtain ⟨c, l, e⟩ : ∃ c l, s.data.toList = c :: l := by
    cases e : s.data.toList with
    | nil => have : s.data.toList.length = s.size := by simp
             rw [e] at this; simp at this; omega
    | cons c l => exact ⟨c, l, rfl⟩
  by_cases h0 : k = 0
  · subst h0; exact tail_walk_raw s hs w
  by_cases h9 : k = 9
  · subst h9
    rcases cut_one s.data.toList 35 with ⟨a, m, h1, h2, _⟩ | ⟨h1, _⟩
    · exact tail_walk_var s hs a m h1 h2 w
    · exact tail_walk_novar s hs h1 w
  by_cases h7 : k = 7
  · subst h7
    by_cases hc : c = 36
    · exact tail_walk_hex7 s hs0 hs l (by rw [e, hc]) w
    · exact tail_walk_dec7 s hs0 hs c hc l e w
  by_cases h8 : k = 8
  · subst h8
    by_cases hc : c = 36
    · exact tail_walk_hex8 s hs0 hs l (by rw [e, hc]) w
    · exact tail_walk_dec8 s hs0 hs c hc l e w
  exact tail_walk_word k (by omega) s hs w
end Go.Proofs.YtogdbfjagnbllaaGreatDoor
