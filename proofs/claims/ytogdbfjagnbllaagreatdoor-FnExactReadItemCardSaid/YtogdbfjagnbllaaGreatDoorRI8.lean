/-
  What the program reads behind each mark: the readers, one by one.
  The program's reader of a mark: which function it is.
  The program's reading of an item: the one item whose text it is, or none.
  What a text reads as: kind by kind, the plain facts.
-/
import Derived.Test.YtogdbfjagnbllaaGreatDoorRI6
import Derived.Test.YtogdbfjagnbllaaGreatDoorRI7
import Derived.Test.YtogdbfjagnbllaaGreatDoorRI2
namespace Go.Proofs.YtogdbfjagnbllaaGreatDoor
open Go.RowKit Go

/-- What the readers ask of memory. -/
structure ReadIn (w : World) : Prop where
  text : TextIn w
  errs : Errs w
  max : ∃ m : Int, w.cell? ⟨1, 0, none⟩ = some (.int .i64 m)
theorem ReadIn.below {w w' : World} (h : ReadIn w) (hb : Below w.heap.size w w') : ReadIn w' :=
  ⟨h.text.below hb, h.errs.below hb, by obtain ⟨m, hm⟩ := h.max; exact ⟨m, (hb.cell (lt_of_cell_tab hm)).trans hm⟩⟩
theorem ReadIn.alloc {w : World} (h : ReadIn w) (o : Obj) : ReadIn (w.alloc o) := h.below ((Below.refl _ _).alloc (Nat.le_refl _) _)
/-- What a reader tells. -/
def ReadEnd (c : UInt8) (l : List UInt8) (w : World) (e : Ending) (w' : World) : Prop := ∃ it : It, e = .returned (itVal it) ∧ OnlyItem c l it ∧ Below w.heap.size w w'
theorem sgn_wrap {n : Nat} (h : n < 4294967296) : wrap32 (n : Int) = sgn n := by unfold wrap32 sgn; split <;> omega

set_option maxRecDepth 100000 in
set_option maxHeartbeats 2000000 in
theorem read_raw (s : ByteArray) (hs : s.size ≤ 1048576) (w : World) (hi : ReadIn w) : Calls Tryz.prog 77 #[.string s] w (ReadEnd 37 s.data.toList w) := by
  have HC := Lib.hid (fun o => impl_readhex s hs (w.alloc o) (hi.alloc o).errs (hi.alloc o).text.deb)
  clear hi hs
  go_enter Tryz.func77, Tryz.ntmps77
  go_wp2_with fail
  refine (HC.out _).mono ?_
  rintro e w1 ⟨n, b, rfl, hr, hb1⟩
  have hn : n < 4294967296 := by rcases hr with ⟨_, h, _⟩ | ⟨_, h, _⟩ <;> omega
  have HO := Lib.hid (only_raw hr hn)
  have hx1 := box_mono (box_start w _) (hb1.mono (by simp))
  have k1 : Blk w1 w.heap.size 38 (itC 0 ⟨#[]⟩ 0 false 0) := res_blk hx1
  have HB := Lib.hid (box_below hx1)
  obtain ⟨d0, d1, d2, d3, d4, f0, f1, f2, f3, f4⟩ := itC_cells k1
  have K1 := Lib.hid k1
  clear hb1 hx1 k1 hr hn
  go_wp2_with fail
  have hk := putIt_blk K1.out 0 ⟨#[]⟩ 0 false (n : Int)
  have hbl := putIt_below (g := w.heap.size) HB.out (Nat.le_refl _) 0 ⟨#[]⟩ 0 false (n : Int)
  show bodyPost _ _ _ _ _ (putIt _ _ 0 ⟨#[]⟩ 0 false (n : Int))
  generalize putIt _ _ 0 ⟨#[]⟩ 0 false (n : Int) = W5 at hk hbl ⊢
  obtain ⟨e0, e1, e2, e3, e4, -⟩ := itC_cells hk
  clear hk
  exact bodyPost_ret (v := itA 0 ⟨#[]⟩ 0 false (n : Int)) (by simp [results, Tryz.results77, e0, e1, e2, e3, e4, go_sem]) rfl ⟨⟨0, ⟨#[]⟩, 0, false, n⟩, rfl, HO.out, hbl⟩

set_option maxHeartbeats 2000000 in
theorem read_word (k : Int) (s : ByteArray) (g : Nat) (w : World) (hc : w.cell? ⟨g, 0, none⟩ = some (.int .i64 k)) :
    Calls Tryz.prog 107 #[.string s, .pointer (some ⟨g, 0, none⟩)] w fun e w' => e = .returned (itA k s 0 false 0) ∧ Below w.heap.size w w' := by
  have hg := lt_of_cell_tab hc
  simp only at hg
  go_enter Tryz.func107, Tryz.ntmps107
  go_wp2_with fail
  have hk := Blk.new w 38 (itC k s 0 false 0)
  have hbl := (Below.refl w.heap.size w).alloc (Nat.le_refl _) (.cells (itC k s 0 false 0) 38)
  show bodyPost _ _ _ _ _ (w.alloc (.cells (itC k s 0 false 0) 38))
  generalize w.alloc (.cells (itC k s 0 false 0) 38) = W5 at hk hbl ⊢
  obtain ⟨e0, e1, e2, e3, e4, -⟩ := itC_cells hk
  clear hk
  exact bodyPost_ret (v := itA k s 0 false 0) (by simp [results, Tryz.results107, e0, e1, e2, e3, e4, go_sem]) rfl ⟨rfl, hbl⟩

theorem len_tail {s : ByteArray} {c : UInt8} {m : List UInt8} (hm : s.data.toList = c :: m) (hs : s.size ≤ 1048576) : (⟨m.toArray⟩ : ByteArray).size ≤ 1048576 := by
  have e : s.data.toList.length = m.length + 1 := by rw [hm]; rfl
  have e2 : s.data.toList.length = s.size := by simp
  show m.toArray.size ≤ _
  rw [List.size_toArray]
  omega
theorem cut36 {s : ByteArray} {c : UInt8} {m : List UInt8} (hm : s.data.toList = c :: m) (W : World) : Calls Tryz.prog 105 #[.string s, .string ⟨#[c]⟩] W fun e w' => e = .returned (.tuple #[.string ⟨m.toArray⟩, .bool true]) ∧ W = w' := by
  refine (Tryz.strings_CutPrefix s ⟨#[c]⟩ W).mono ?_
  rintro e w' ⟨rfl, rfl⟩
  refine ⟨?_, rfl⟩
  show Ending.returned (.tuple #[.string ⟨(Lib.trimPrefix s.data.toList [c]).toArray⟩, .bool (Lib.hasPrefix s.data.toList [c])]) = _
  rcases prefix_one s.data.toList c with ⟨m', e1, e2, e3⟩ | ⟨e1, _⟩
  · rw [hm] at e1 e2 e3 ⊢
    injection e1 with _ e1
    rw [e2, e3, e1]
  · exact absurd hm (e1 m)
theorem nocut {s : ByteArray} {c : UInt8} (h : ∀ m, s.data.toList ≠ c :: m) (W : World) : Calls Tryz.prog 105 #[.string s, .string ⟨#[c]⟩] W fun e w' => (∃ t : ByteArray, e = .returned (.tuple #[.string t, .bool false])) ∧ W = w' := by
  refine (Tryz.strings_CutPrefix s ⟨#[c]⟩ W).mono ?_
  rintro e w' ⟨rfl, rfl⟩
  refine ⟨⟨⟨(Lib.trimPrefix s.data.toList [c]).toArray⟩, ?_⟩, rfl⟩
  rcases prefix_one s.data.toList c with ⟨m', e1, e2, e3⟩ | ⟨_, e2⟩
  · exact absurd e1 (h m')
  · show Ending.returned (.tuple #[_, .bool (Lib.hasPrefix s.data.toList [c])]) = _
    rw [e2]

set_option maxRecDepth 100000 in
set_option maxHeartbeats 2000000 in
theorem read_num_hex (a k : Int) (hw : Shared a k) (s : ByteArray) (hs : s.size ≤ 1048576) (m : List UInt8) (hm : s.data.toList = 36 :: m) (g1 g2 g3 : Nat) (w : World) (hi : ReadIn w)
    (h1c : w.cell? ⟨g1, 0, none⟩ = some (.int .i64 k)) (h2c : w.cell? ⟨g2, 0, none⟩ = some (.func (.func 107) #[] #[.pointer (some ⟨g3, 0, none⟩)])) (_h3 : w.cell? ⟨g3, 0, none⟩ = some (.int .i64 a)) :
    Calls Tryz.prog 104 #[.string s, .pointer (some ⟨g1, 0, none⟩), .pointer (some ⟨g2, 0, none⟩)] w (ReadEnd (markOf a) s.data.toList w) := by
  have hg1 := lt_of_cell_tab h1c
  have hg2 := lt_of_cell_tab h2c
  simp only at hg1 hg2
  have HP : Hid (∀ W, Calls Tryz.prog 105 #[.string s, .string ⟨#[36]⟩] W fun e w' => e = .returned (.tuple #[.string ⟨m.toArray⟩, .bool true]) ∧ W = w') := Lib.hid fun W => cut36 hm W
  have HC := Lib.hid (fun o => impl_readhex ⟨m.toArray⟩ (len_tail hm hs) (w.alloc o) (hi.alloc o).errs (hi.alloc o).text.deb)
  have HW := Lib.hid hw
  have HI := Lib.hid (And.intro h1c h2c)
  have HM := Lib.hid hm
  clear hi hs hw h1c h2c _h3 hm
  go_enter Tryz.func104, Tryz.ntmps104
  go_wp2_with fail
  refine (HP.out _).mono ?_
  rintro e w1 ⟨rfl, rfl⟩
  go_wp2_with fail
  refine (HC.out _).mono ?_
  rintro e w1 ⟨n, b, rfl, hr, hb1⟩
  have hn : n < 4294967296 := by rcases hr with ⟨_, h, _⟩ | ⟨_, h, _⟩ <;> omega
  have hz := sgn_wrap hn
  have hm := HM.out
  have hw := HW.out
  have HO := Lib.hid (hm ▸ only_hex hw (show ReadsHex m n b by simpa using hr) hn)
  have hx1 := box_mono (box_start w _) (hb1.mono (by simp))
  have hk1 : w1.cell? ⟨g1, 0, none⟩ = some (.int .i64 k) := ((box_below hx1).cell (p := ⟨g1, 0, none⟩) hg1).trans HI.out.1
  have hg1' : g1 < w1.heap.size := lt_of_cell_tab hk1
  have k1 : Blk w1 w.heap.size 38 (itC 0 ⟨#[]⟩ 0 false 0) := res_blk hx1
  have HB := Lib.hid (box_below hx1)
  obtain ⟨d0, d1, d2, d3, d4, f0, f1, f2, f3, f4⟩ := itC_cells k1
  have K1 := Lib.hid k1
  clear hb1 hx1 k1 hr hm hw hn
  go_wp2_with fail
  have hk := putIt_blk K1.out k ⟨#[]⟩ (sgn n) true 0
  have hbl := putIt_below (g := w.heap.size) HB.out (Nat.le_refl _) k ⟨#[]⟩ (sgn n) true 0
  show bodyPost _ _ _ _ _ (putIt _ _ k ⟨#[]⟩ (sgn n) true 0)
  generalize putIt _ _ k ⟨#[]⟩ (sgn n) true 0 = W5 at hk hbl ⊢
  obtain ⟨e0, e1, e2, e3, e4, -⟩ := itC_cells hk
  clear hk
  exact bodyPost_ret (v := itA k ⟨#[]⟩ (sgn n) true 0) (by simp [results, Tryz.results104, e0, e1, e2, e3, e4, go_sem]) rfl ⟨⟨k, ⟨#[]⟩, (sgn n), true, 0⟩, rfl, HO.out, hbl⟩

set_option maxRecDepth 100000 in
set_option maxHeartbeats 2000000 in
theorem read_num_dec (a k : Int) (hw : Shared a k) (s : ByteArray) (hs : s.size ≤ 1048576) (m : List UInt8) (hm : s.data.toList = 35 :: m) (g1 g2 g3 : Nat) (w : World) (hi : ReadIn w)
    (h1c : w.cell? ⟨g1, 0, none⟩ = some (.int .i64 k)) (h2c : w.cell? ⟨g2, 0, none⟩ = some (.func (.func 107) #[] #[.pointer (some ⟨g3, 0, none⟩)])) (_h3 : w.cell? ⟨g3, 0, none⟩ = some (.int .i64 a)) :
    Calls Tryz.prog 104 #[.string s, .pointer (some ⟨g1, 0, none⟩), .pointer (some ⟨g2, 0, none⟩)] w (ReadEnd (markOf a) s.data.toList w) := by
  have hg1 := lt_of_cell_tab h1c
  have hg2 := lt_of_cell_tab h2c
  simp only at hg1 hg2
  have HP : Hid (∀ W, Calls Tryz.prog 105 #[.string s, .string ⟨#[36]⟩] W fun e w' => (∃ t : ByteArray, e = .returned (.tuple #[.string t, .bool false])) ∧ W = w') := Lib.hid fun W => nocut (fun m h => by rw [hm] at h; cases h) W
  have HQ : Hid (∀ W, Calls Tryz.prog 105 #[.string s, .string ⟨#[35]⟩] W fun e w' => e = .returned (.tuple #[.string ⟨m.toArray⟩, .bool true]) ∧ W = w') := Lib.hid fun W => cut36 hm W
  have HC := Lib.hid (fun o => impl_readdec ⟨m.toArray⟩ (len_tail hm hs) (w.alloc o) (hi.alloc o).errs.1.1 (hi.alloc o).errs.1.2 (hi.alloc o).text.pow)
  have HW := Lib.hid hw
  have HI := Lib.hid (And.intro h1c h2c)
  have HM := Lib.hid hm
  clear hi hs hw h1c h2c _h3 hm
  go_enter Tryz.func104, Tryz.ntmps104
  go_wp2_with fail
  refine (HP.out _).mono ?_
  rintro e w1 ⟨⟨t, rfl⟩, rfl⟩
  go_wp2_with fail
  refine (HQ.out _).mono ?_
  rintro e w1 ⟨rfl, rfl⟩
  go_wp2_with fail
  refine (HC.out _).mono ?_
  rintro e w1 ⟨n, b, rfl, hr, hb1⟩
  have hm := HM.out
  have hw := HW.out
  have HO := Lib.hid (hm ▸ only_dec hw (show ReadsDec m n b by simpa using hr))
  have hx1 := box_mono (box_start w _) (hb1.mono (by simp))
  have hk1 : w1.cell? ⟨g1, 0, none⟩ = some (.int .i64 k) := ((box_below hx1).cell (p := ⟨g1, 0, none⟩) hg1).trans HI.out.1
  have hg1' : g1 < w1.heap.size := lt_of_cell_tab hk1
  have k1 : Blk w1 w.heap.size 38 (itC 0 ⟨#[]⟩ 0 false 0) := res_blk hx1
  have HB := Lib.hid (box_below hx1)
  obtain ⟨d0, d1, d2, d3, d4, f0, f1, f2, f3, f4⟩ := itC_cells k1
  have K1 := Lib.hid k1
  clear hb1 hx1 k1 hr hm hw 
  go_wp2_with fail
  have hk := putIt_blk K1.out k ⟨#[]⟩ (wrap32 n) false 0
  have hbl := putIt_below (g := w.heap.size) HB.out (Nat.le_refl _) k ⟨#[]⟩ (wrap32 n) false 0
  show bodyPost _ _ _ _ _ (putIt _ _ k ⟨#[]⟩ (wrap32 n) false 0)
  generalize putIt _ _ k ⟨#[]⟩ (wrap32 n) false 0 = W5 at hk hbl ⊢
  obtain ⟨e0, e1, e2, e3, e4, -⟩ := itC_cells hk
  clear hk
  exact bodyPost_ret (v := itA k ⟨#[]⟩ (wrap32 n) false 0) (by simp [results, Tryz.results104, e0, e1, e2, e3, e4, go_sem]) rfl ⟨⟨k, ⟨#[]⟩, (wrap32 n), false, 0⟩, rfl, HO.out, hbl⟩

set_option maxRecDepth 100000 in
set_option maxHeartbeats 2000000 in
theorem read_num_word (a k : Int) (hw : Shared a k) (s : ByteArray) (hs : s.size ≤ 1048576) (h1 : ∀ m, s.data.toList ≠ 36 :: m) (h2 : ∀ m, s.data.toList ≠ 35 :: m) (g1 g2 g3 : Nat) (w : World)
    (h1c : w.cell? ⟨g1, 0, none⟩ = some (.int .i64 k)) (h2c : w.cell? ⟨g2, 0, none⟩ = some (.func (.func 107) #[] #[.pointer (some ⟨g3, 0, none⟩)])) (h3 : w.cell? ⟨g3, 0, none⟩ = some (.int .i64 a)) :
    Calls Tryz.prog 104 #[.string s, .pointer (some ⟨g1, 0, none⟩), .pointer (some ⟨g2, 0, none⟩)] w (ReadEnd (markOf a) s.data.toList w) := by
  have hg1 := lt_of_cell_tab h1c
  have hg2 := lt_of_cell_tab h2c
  simp only at hg1 hg2
  have HP : Hid (∀ W, Calls Tryz.prog 105 #[.string s, .string ⟨#[36]⟩] W fun e w' => (∃ t : ByteArray, e = .returned (.tuple #[.string t, .bool false])) ∧ W = w') := Lib.hid fun W => nocut h1 W
  have HQ : Hid (∀ W, Calls Tryz.prog 105 #[.string s, .string ⟨#[35]⟩] W fun e w' => (∃ t : ByteArray, e = .returned (.tuple #[.string t, .bool false])) ∧ W = w') := Lib.hid fun W => nocut h2 W
  have HC := Lib.hid (fun W (hb : Below w.heap.size w W) => read_word a s g3 W (by rw [hb.cell (p := ⟨g3, 0, none⟩) (lt_of_cell_tab h3)]; exact h3))
  have HW := Lib.hid hw
  have HI := Lib.hid (And.intro h1c h2c)
  have HM := Lib.hid (And.intro h1 h2)
  have HSZ : Hid (s.size ≤ 4611686018427387904) := Lib.hid (by omega)
  clear hs hw h1c h2c h3 h1 h2
  go_enter Tryz.func104, Tryz.ntmps104
  go_wp2_with fail
  refine (HP.out _).mono ?_
  rintro e w1 ⟨⟨t, rfl⟩, rfl⟩
  go_wp2_with fail
  refine (HQ.out _).mono ?_
  rintro e w1 ⟨⟨t2, rfl⟩, rfl⟩
  have hk2 : (w.alloc (.cells (itC 0 ⟨#[]⟩ 0 false 0) 38)).cell? ⟨g2, 0, none⟩ = _ := (((Below.refl w.heap.size w).alloc (Nat.le_refl _) (.cells (itC 0 ⟨#[]⟩ 0 false 0) 38)).cell (p := ⟨g2, 0, none⟩) hg2).trans HI.out.2
  unfold itC at hk2
  go_wp2_with fail
  refine (HC.out _ ((Below.refl w.heap.size w).alloc (Nat.le_refl _) _)).mono ?_
  rintro e w1 ⟨rfl, hb1⟩
  have HO : Hid (OnlyItem (markOf a) s.data.toList ⟨a, s, 0, false, 0⟩) := Lib.hid (only_plain HW.out HSZ.out rfl HM.out.1 HM.out.2)
  have hx1 := box_mono (box_start w _) (hb1.mono (by simp))
  have k1 : Blk w1 w.heap.size 38 (itC 0 ⟨#[]⟩ 0 false 0) := res_blk hx1
  have HB := Lib.hid (box_below hx1)
  obtain ⟨d0, d1, d2, d3, d4, f0, f1, f2, f3, f4⟩ := itC_cells k1
  have K1 := Lib.hid k1
  clear hb1 hx1 k1
  go_wp2_with fail
  have hk := putIt_blk K1.out a s 0 false 0
  have hbl := putIt_below (g := w.heap.size) HB.out (Nat.le_refl _) a s 0 false 0
  show bodyPost _ _ _ _ _ (putIt _ _ a s 0 false 0)
  generalize putIt _ _ a s 0 false 0 = W5 at hk hbl ⊢
  obtain ⟨e0, e1, e2, e3, e4, -⟩ := itC_cells hk
  clear hk
  exact bodyPost_ret (v := itA a s 0 false 0) (by simp [results, Tryz.results104, e0, e1, e2, e3, e4, go_sem]) rfl ⟨⟨a, s, 0, false, 0⟩, rfl, HO.out, hbl⟩

set_option maxRecDepth 100000 in
set_option maxHeartbeats 2000000 in
theorem read_var_yes (s : ByteArray) (hs : s.size ≤ 1048576) (a m : List UInt8) (hl : s.data.toList = a ++ 35 :: m) (hn : (35 : UInt8) ∉ a) (hc : Lib.cut s.data.toList [35] = (a, m, true)) (w : World) (hi : ReadIn w) : Calls Tryz.prog 80 #[.string s] w (ReadEnd 38 s.data.toList w) := by
  have e2 : s.data.toList.length = s.size := by simp
  have e : s.data.toList.length = a.length + (m.length + 1) := by rw [hl]; simp
  have z1 : (⟨(a).toArray⟩ : ByteArray).size ≤ 1048576 := by show (a).toArray.size ≤ _; rw [List.size_toArray]; omega
  have z2 : (⟨(m).toArray⟩ : ByteArray).size ≤ 1048576 := by show (m).toArray.size ≤ _; rw [List.size_toArray]; omega
  have HSZ : Hid ((⟨(a).toArray⟩ : ByteArray).size ≤ 4611686018427387904) := Lib.hid (Nat.le_trans z1 (by decide))
  have HK : Hid (∀ W, ReadIn W → Calls Tryz.prog 108 #[.string s, .string ⟨#[35]⟩] W fun e w' => e = .returned (.tuple #[.string ⟨(a).toArray⟩, .string ⟨(m).toArray⟩, .bool true]) ∧ Below W.heap.size W w') := Lib.hid fun W hW => by
    obtain ⟨x, hx⟩ := hW.max
    refine (Tryz.strings_Cut s ⟨#[35]⟩ x W (by omega) hx).mono ?_
    rintro e w' ⟨rfl, q, rfl⟩
    refine ⟨?_, below_drewN (Below.refl _ _) q⟩
    show Ending.returned (.tuple #[.string ⟨(Lib.cut s.data.toList [35]).1.toArray⟩, .string ⟨(Lib.cut s.data.toList [35]).2.1.toArray⟩, .bool (Lib.cut s.data.toList [35]).2.2]) = _
    rw [hc]
  have HA := Lib.hid (fun o => hi.alloc o)
  have HD := Lib.hid (fun W (hW : ReadIn W) => impl_readdec ⟨(m).toArray⟩ z2 W hW.errs.1.1 hW.errs.1.2 hW.text.pow)
  have HN := Lib.hid hn
  have HL := Lib.hid hl
  clear hi hs hc e2 e z1 z2 hn hl
  go_enter Tryz.func80, Tryz.ntmps80
  go_wp2_with fail
  refine (HK.out _ (HA.out _)).mono ?_
  rintro e w1 ⟨rfl, hb1⟩
  have HI1 := Lib.hid ((HA.out _).below hb1)
  have HX := Lib.hid (box_mono (box_start w _) (hb1.mono (by simp)))
  clear hb1
  go_wp2_with fail
  refine (HD.out _ HI1.out).mono ?_
  rintro e w2 ⟨n, b, rfl, hr, hb2⟩
  have hn := HN.out
  have hl := HL.out
  have HO : Hid (OnlyItem 38 s.data.toList ⟨9, ⟨(a).toArray⟩, wrap32 n, false, 0⟩) := Lib.hid (hl ▸ only_var HSZ.out rfl hn (show ReadsDec m n b by simpa using hr))
  have hx1 := box_mono HX.out hb2
  have k1 : Blk w2 w.heap.size 38 (itC 0 ⟨#[]⟩ 0 false 0) := res_blk hx1
  have HB := Lib.hid (box_below hx1)
  obtain ⟨d0, d1, d2, d3, d4, f0, f1, f2, f3, f4⟩ := itC_cells k1
  have K1 := Lib.hid k1
  clear hb2 hx1 k1 hr hn hl
  go_wp2_with fail
  have hk := putIt_blk K1.out 9 ⟨(a).toArray⟩ (wrap32 n) false 0
  have hbl := putIt_below (g := w.heap.size) HB.out (Nat.le_refl _) 9 ⟨(a).toArray⟩ (wrap32 n) false 0
  show bodyPost _ _ _ _ _ (putIt _ _ 9 ⟨(a).toArray⟩ (wrap32 n) false 0)
  generalize putIt _ _ 9 ⟨(a).toArray⟩ (wrap32 n) false 0 = W5 at hk hbl ⊢
  obtain ⟨e0, e1, e2, e3, e4, -⟩ := itC_cells hk
  clear hk
  exact bodyPost_ret (v := itA 9 ⟨(a).toArray⟩ (wrap32 n) false 0) (by simp [results, Tryz.results80, e0, e1, e2, e3, e4, go_sem]) rfl ⟨⟨9, ⟨(a).toArray⟩, (wrap32 n), false, 0⟩, rfl, HO.out, hbl⟩

set_option maxRecDepth 100000 in
set_option maxHeartbeats 2000000 in
theorem read_var_no (s : ByteArray) (hs : s.size ≤ 1048576) (hn : (35 : UInt8) ∉ s.data.toList) (hc : Lib.cut s.data.toList [35] = (s.data.toList, [], false)) (w : World) (hi : ReadIn w) : Calls Tryz.prog 80 #[.string s] w (ReadEnd 38 s.data.toList w) := by
  have e2 : s.data.toList.length = s.size := by simp
  have e : s.data.toList.length = s.data.toList.length := rfl
  have z1 : (⟨(s.data.toList).toArray⟩ : ByteArray).size ≤ 1048576 := by show (s.data.toList).toArray.size ≤ _; rw [List.size_toArray]; omega
  have z2 : (⟨([]).toArray⟩ : ByteArray).size ≤ 1048576 := by show ([]).toArray.size ≤ _; rw [List.size_toArray]; decide
  have HSZ : Hid ((⟨(s.data.toList).toArray⟩ : ByteArray).size ≤ 4611686018427387904) := Lib.hid (Nat.le_trans z1 (by decide))
  have HK : Hid (∀ W, ReadIn W → Calls Tryz.prog 108 #[.string s, .string ⟨#[35]⟩] W fun e w' => e = .returned (.tuple #[.string ⟨(s.data.toList).toArray⟩, .string ⟨([]).toArray⟩, .bool false]) ∧ Below W.heap.size W w') := Lib.hid fun W hW => by
    obtain ⟨x, hx⟩ := hW.max
    refine (Tryz.strings_Cut s ⟨#[35]⟩ x W (by omega) hx).mono ?_
    rintro e w' ⟨rfl, q, rfl⟩
    refine ⟨?_, below_drewN (Below.refl _ _) q⟩
    show Ending.returned (.tuple #[.string ⟨(Lib.cut s.data.toList [35]).1.toArray⟩, .string ⟨(Lib.cut s.data.toList [35]).2.1.toArray⟩, .bool (Lib.cut s.data.toList [35]).2.2]) = _
    rw [hc]
  have HA := Lib.hid (fun o => hi.alloc o)
  have HD := Lib.hid (fun W (hW : ReadIn W) => impl_readdec ⟨([]).toArray⟩ z2 W hW.errs.1.1 hW.errs.1.2 hW.text.pow)
  have HN := Lib.hid hn
  
  clear hi hs hc e2 e z1 z2 hn 
  go_enter Tryz.func80, Tryz.ntmps80
  go_wp2_with fail
  refine (HK.out _ (HA.out _)).mono ?_
  rintro e w1 ⟨rfl, hb1⟩
  have HI1 := Lib.hid ((HA.out _).below hb1)
  have HX := Lib.hid (box_mono (box_start w _) (hb1.mono (by simp)))
  clear hb1
  go_wp2_with fail
  refine (HD.out _ HI1.out).mono ?_
  rintro e w2 ⟨n, b, rfl, hr, hb2⟩
  have hn := HN.out
  
  have HO : Hid (OnlyItem 38 s.data.toList ⟨9, ⟨(s.data.toList).toArray⟩, wrap32 n, false, 0⟩) := Lib.hid (only_var_no hn (only_in (by omega) (wrap_in n).1 (wrap_in n).2 (by omega) HSZ.out))
  have hx1 := box_mono HX.out hb2
  have k1 : Blk w2 w.heap.size 38 (itC 0 ⟨#[]⟩ 0 false 0) := res_blk hx1
  have HB := Lib.hid (box_below hx1)
  obtain ⟨d0, d1, d2, d3, d4, f0, f1, f2, f3, f4⟩ := itC_cells k1
  have K1 := Lib.hid k1
  clear hb2 hx1 k1 hr hn 
  go_wp2_with fail
  have hk := putIt_blk K1.out 9 ⟨(s.data.toList).toArray⟩ (wrap32 n) false 0
  have hbl := putIt_below (g := w.heap.size) HB.out (Nat.le_refl _) 9 ⟨(s.data.toList).toArray⟩ (wrap32 n) false 0
  show bodyPost _ _ _ _ _ (putIt _ _ 9 ⟨(s.data.toList).toArray⟩ (wrap32 n) false 0)
  generalize putIt _ _ 9 ⟨(s.data.toList).toArray⟩ (wrap32 n) false 0 = W5 at hk hbl ⊢
  obtain ⟨e0, e1, e2, e3, e4, -⟩ := itC_cells hk
  clear hk
  exact bodyPost_ret (v := itA 9 ⟨(s.data.toList).toArray⟩ (wrap32 n) false 0) (by simp [results, Tryz.results80, e0, e1, e2, e3, e4, go_sem]) rfl ⟨⟨9, ⟨(s.data.toList).toArray⟩, (wrap32 n), false, 0⟩, rfl, HO.out, hbl⟩

theorem read_var (s : ByteArray) (hs : s.size ≤ 1048576) (w : World) (hi : ReadIn w) : Calls Tryz.prog 80 #[.string s] w (ReadEnd 38 s.data.toList w) := by
  rcases cut_one s.data.toList 35 with ⟨a, m, h1, h2, h3⟩ | ⟨h1, h2⟩
  · exact read_var_yes s hs a m h1 h2 h3 w hi
  · exact read_var_no s hs h1 h2 w hi
theorem read_num (a k : Int) (hw : Shared a k) (s : ByteArray) (hs : s.size ≤ 1048576) (g1 g2 g3 : Nat) (w : World) (hi : ReadIn w)
    (h1c : w.cell? ⟨g1, 0, none⟩ = some (.int .i64 k)) (h2c : w.cell? ⟨g2, 0, none⟩ = some (.func (.func 107) #[] #[.pointer (some ⟨g3, 0, none⟩)])) (h3 : w.cell? ⟨g3, 0, none⟩ = some (.int .i64 a)) :
    Calls Tryz.prog 104 #[.string s, .pointer (some ⟨g1, 0, none⟩), .pointer (some ⟨g2, 0, none⟩)] w (ReadEnd (markOf a) s.data.toList w) := by
  rcases prefix_one s.data.toList 36 with ⟨m, h, _⟩ | ⟨h, _⟩
  · exact read_num_hex a k hw s hs m h g1 g2 g3 w hi h1c h2c h3
  rcases prefix_one s.data.toList 35 with ⟨m, h4, _⟩ | ⟨h4, _⟩
  · exact read_num_dec a k hw s hs m h4 g1 g2 g3 w hi h1c h2c h3
  · exact read_num_word a k hw s hs h h4 g1 g2 g3 w h1c h2c h3

theorem wordreader_any (k : Int) (w : World) : Calls Tryz.prog 79 #[.int .i64 k] w fun e w' => (∃ g : Nat, e = .returned (.func (.func 107) #[] #[.pointer (some ⟨g, 0, none⟩)]) ∧ w'.cell? ⟨g, 0, none⟩ = some (.int .i64 k)) ∧ Below w.heap.size w w' := by
  have hmf : ∀ (fn : Fn) (first cap : Array Value) (w : World), (Instr.makeFunc fn first cap).run Tryz.prog w = .ok (.func fn first cap) w := fun _ _ _ _ => rfl
  go_enter Tryz.func79, Tryz.ntmps79
  go_wp2_with fail
  go_ret
  exact ⟨⟨w.heap.size, rfl, (Blk.new w _ #[.int .i64 k]).cell 0⟩, (Below.refl _ _).alloc (Nat.le_refl _) _⟩
theorem numreader_any (k : Int) (fv : Value) (hfv : ∃ f c, fv = .func (.func f) #[] c) (w : World) : Calls Tryz.prog 78 #[.int .i64 k, fv] w fun e w' => (∃ g1 g2 : Nat, e = .returned (.func (.func 104) #[] #[.pointer (some ⟨g1, 0, none⟩), .pointer (some ⟨g2, 0, none⟩)]) ∧ w'.cell? ⟨g1, 0, none⟩ = some (.int .i64 k) ∧ w'.cell? ⟨g2, 0, none⟩ = some fv) ∧ Below w.heap.size w w' := by
  obtain ⟨f, c, rfl⟩ := hfv
  have hmf : ∀ (fn : Fn) (first cap : Array Value) (w : World), (Instr.makeFunc fn first cap).run Tryz.prog w = .ok (.func fn first cap) w := fun _ _ _ _ => rfl
  go_enter Tryz.func78, Tryz.ntmps78
  go_wp2_with fail
  go_ret
  obtain ⟨k1, k2, hB, _⟩ := two_boxes (w := w) (w1 := (w.alloc _).alloc _) (Below.refl _ _)
  exact ⟨⟨w.heap.size, w.heap.size + 1, by simp, k1.cell 0, k2.cell 0⟩, hB⟩
end Go.Proofs.YtogdbfjagnbllaaGreatDoor

namespace Go.Proofs.YtogdbfjagnbllaaGreatDoor
open Go.RowKit Go

/-- The reader of a mark. -/
inductive ReaderIs (c : UInt8) (w : World) : Value → Prop
  | raw : c = 37 → ReaderIs c w (.func (.func 77) #[] #[])
  | var : c = 38 → ReaderIs c w (.func (.func 80) #[] #[])
  | num (a k : Int) (g1 g2 g3 : Nat) : Shared a k → c = markOf a → w.cell? ⟨g1, 0, none⟩ = some (.int .i64 k) → w.cell? ⟨g2, 0, none⟩ = some (.func (.func 107) #[] #[.pointer (some ⟨g3, 0, none⟩)]) → w.cell? ⟨g3, 0, none⟩ = some (.int .i64 a) → ReaderIs c w (.func (.func 104) #[] #[.pointer (some ⟨g1, 0, none⟩), .pointer (some ⟨g2, 0, none⟩)])
  | word (k : Int) (g : Nat) : -1 ≤ k ∧ k ≤ 9 → ((k = 2 ∨ k = 4 ∨ k = 5 ∨ k = 6) ∧ c = markOf k ∨ (∀ j : Int, 0 ≤ j → j ≤ 9 → markOf j ≠ c)) → w.cell? ⟨g, 0, none⟩ = some (.int .i64 k) → ReaderIs c w (.func (.func 107) #[] #[.pointer (some ⟨g, 0, none⟩)])
def ReaderEnd (c : UInt8) (w : World) (e : Ending) (w' : World) : Prop := (∃ fv, e = .returned fv ∧ ReaderIs c w' fv) ∧ Below w.heap.size w w'
abbrev MarkAt (c : UInt8) (K : Int) : Prop := Hid (∀ W : World, Calls Tryz.prog 76 #[.string ⟨#[37, 126, 58, 61, 34, 94, 95, 126, 61, 38]⟩, .int .u8 (c.toNat : Int)] W fun e w' => e = .returned (.int .i64 K) ∧ W = w')
theorem markat {c : UInt8} {K : Int} (h : Lib.indexByte marksL c = K) : MarkAt c K := Lib.hid fun W => by
  refine (Tryz.strings_IndexByte _ (c.toNat : Int) W).mono ?_
  rintro e w' ⟨rfl, rfl⟩
  refine ⟨?_, rfl⟩
  show Ending.returned (.int .i64 (Lib.indexByte marksL (UInt8.ofNat (c.toNat : Int).toNat))) = _
  rw [show UInt8.ofNat (c.toNat : Int).toNat = c by simp, h]

theorem readerof_raw (c : UInt8) (hc : c = 37) (HM : MarkAt c 0) (w : World) : Calls Tryz.prog 50 #[.int .u8 (c.toNat : Int)] w (ReaderEnd c w) := by
  have HC := Lib.hid hc
  clear hc
  obtain ⟨z, hz⟩ : ∃ z : Int, (c.toNat : Int) = z := ⟨_, rfl⟩
  unfold MarkAt at HM
  rw [hz] at HM ⊢
  clear hz
  go_enter Tryz.func50, Tryz.ntmps50
  go_wp2_with fail
  refine (HM.out _).mono ?_
  rintro e w1 ⟨rfl, rfl⟩
  go_wp2_with fail
  go_ret
  exact ⟨⟨_, rfl, .raw HC.out⟩, Below.refl _ _⟩
theorem readerof_var (c : UInt8) (hc : c = 38) (HM : MarkAt c 9) (w : World) : Calls Tryz.prog 50 #[.int .u8 (c.toNat : Int)] w (ReaderEnd c w) := by
  have HC := Lib.hid hc
  clear hc
  obtain ⟨z, hz⟩ : ∃ z : Int, (c.toNat : Int) = z := ⟨_, rfl⟩
  unfold MarkAt at HM
  rw [hz] at HM ⊢
  clear hz
  go_enter Tryz.func50, Tryz.ntmps50
  go_wp2_with fail
  refine (HM.out _).mono ?_
  rintro e w1 ⟨rfl, rfl⟩
  go_wp2_with fail
  go_ret
  exact ⟨⟨_, rfl, .var HC.out⟩, Below.refl _ _⟩
theorem readerof_num1 (c : UInt8) (hc : c = markOf 1) (HM : MarkAt c 1) (w : World) : Calls Tryz.prog 50 #[.int .u8 (c.toNat : Int)] w (ReaderEnd c w) := by
  have HC := Lib.hid hc
  clear hc
  obtain ⟨z, hz⟩ : ∃ z : Int, (c.toNat : Int) = z := ⟨_, rfl⟩
  unfold MarkAt at HM
  rw [hz] at HM ⊢
  clear hz
  have H1 := Lib.hid (fun W => wordreader_any 1 W)
  have H2 := Lib.hid (fun (fv : Value) (hfv : ∃ f c, fv = .func (.func f) #[] c) W => numreader_any 7 fv hfv W)
  go_enter Tryz.func50, Tryz.ntmps50
  go_wp2_with fail
  refine (HM.out _).mono ?_
  rintro e w1 ⟨rfl, rfl⟩
  go_wp2_with fail
  refine (H1.out _).mono ?_
  rintro e w1 ⟨⟨g, rfl, hg⟩, hb1⟩
  go_wp2_with fail
  refine (H2.out _ ⟨_, _, rfl⟩ _).mono ?_
  rintro e w2 ⟨⟨g1, g2, rfl, h1, h2⟩, hb2⟩
  have hg2 := (hb2.cell (p := ⟨g, 0, none⟩) (lt_of_cell_tab hg)).trans hg
  have HB := Lib.hid (hb1.trans (hb2.mono hb1.size))
  have HR := Lib.hid (ReaderIs.num (c := c) 1 7 g1 g2 g (.inl ⟨rfl, rfl⟩) HC.out h1 h2 hg2)
  clear hb1 hb2 hg hg2 h1 h2
  go_wp2_with fail
  go_ret
  exact ⟨⟨_, rfl, HR.out⟩, HB.out⟩
theorem readerof_num3 (c : UInt8) (hc : c = markOf 3) (HM : MarkAt c 3) (w : World) : Calls Tryz.prog 50 #[.int .u8 (c.toNat : Int)] w (ReaderEnd c w) := by
  have HC := Lib.hid hc
  clear hc
  obtain ⟨z, hz⟩ : ∃ z : Int, (c.toNat : Int) = z := ⟨_, rfl⟩
  unfold MarkAt at HM
  rw [hz] at HM ⊢
  clear hz
  have H1 := Lib.hid (fun W => wordreader_any 3 W)
  have H2 := Lib.hid (fun (fv : Value) (hfv : ∃ f c, fv = .func (.func f) #[] c) W => numreader_any 8 fv hfv W)
  go_enter Tryz.func50, Tryz.ntmps50
  go_wp2_with fail
  refine (HM.out _).mono ?_
  rintro e w1 ⟨rfl, rfl⟩
  go_wp2_with fail
  refine (H1.out _).mono ?_
  rintro e w1 ⟨⟨g, rfl, hg⟩, hb1⟩
  go_wp2_with fail
  refine (H2.out _ ⟨_, _, rfl⟩ _).mono ?_
  rintro e w2 ⟨⟨g1, g2, rfl, h1, h2⟩, hb2⟩
  have hg2 := (hb2.cell (p := ⟨g, 0, none⟩) (lt_of_cell_tab hg)).trans hg
  have HB := Lib.hid (hb1.trans (hb2.mono hb1.size))
  have HR := Lib.hid (ReaderIs.num (c := c) 3 8 g1 g2 g (.inr ⟨rfl, rfl⟩) HC.out h1 h2 hg2)
  clear hb1 hb2 hg hg2 h1 h2
  go_wp2_with fail
  go_ret
  exact ⟨⟨_, rfl, HR.out⟩, HB.out⟩
theorem readerof_word (c : UInt8) (k : Int) (hk : -1 ≤ k ∧ k ≤ 9) (hn : k ≠ 0 ∧ k ≠ 1 ∧ k ≠ 3 ∧ k ≠ 9) (hc : (k = 2 ∨ k = 4 ∨ k = 5 ∨ k = 6) ∧ c = markOf k ∨ (∀ j : Int, 0 ≤ j → j ≤ 9 → markOf j ≠ c)) (HM : MarkAt c k) (w : World) : Calls Tryz.prog 50 #[.int .u8 (c.toNat : Int)] w (ReaderEnd c w) := by
  have HC := Lib.hid hc
  have HK := Lib.hid hk
  have e0 : (k == 0) = false := by simp; omega
  have e1 : (k == 1) = false := by simp; omega
  have e3 : (k == 3) = false := by simp; omega
  have e9 : (k == 9) = false := by simp; omega
  obtain ⟨z, hz⟩ : ∃ z : Int, (c.toNat : Int) = z := ⟨_, rfl⟩
  unfold MarkAt at HM
  rw [hz] at HM ⊢
  have H1 := Lib.hid (fun W => wordreader_any k W)
  clear hz hc hk hn
  go_enter Tryz.func50, Tryz.ntmps50
  go_wp2_with fail
  refine (HM.out _).mono ?_
  rintro e w1 ⟨rfl, rfl⟩
  go_wp2_with fail
  refine (H1.out _).mono ?_
  rintro e w1 ⟨⟨g, rfl, hg⟩, hb1⟩
  have HB := Lib.hid hb1
  have HR := Lib.hid (ReaderIs.word (c := c) k g HK.out HC.out hg)
  clear hb1 hg
  go_wp2_with fail
  go_ret
  exact ⟨⟨_, rfl, HR.out⟩, HB.out⟩
theorem mark_mem {k : Int} (h0 : 0 ≤ k) (h9 : k ≤ 9) : markOf k ∈ marksL := by
  rcases mark_is ⟨h0, h9⟩ with rfl | rfl | rfl | rfl | rfl | rfl | rfl | rfl | rfl | rfl <;> decide
/-- Which reader a mark has. -/
theorem readerof_any (c : UInt8) (w : World) : Calls Tryz.prog 50 #[.int .u8 (c.toNat : Int)] w (ReaderEnd c w) := by
  by_cases hm : c ∈ marksL
  · have h : c = 37 ∨ c = 126 ∨ c = 58 ∨ c = 61 ∨ c = 34 ∨ c = 94 ∨ c = 95 ∨ c = 38 := by
      unfold marksL at hm
      simp only [List.mem_cons, List.not_mem_nil, or_false] at hm
      rcases hm with h | h | h | h | h | h | h | h | h | h <;> simp [h]
    obtain ⟨m0, m1, m2, m3, m4, m5, m6, m9⟩ := mark_at
    rcases h with rfl | rfl | rfl | rfl | rfl | rfl | rfl | rfl
    · exact readerof_raw _ rfl (markat m0) w
    · exact readerof_num1 _ rfl (markat m1) w
    · exact readerof_word _ 2 (by decide) (by decide) (.inl ⟨by decide, rfl⟩) (markat m2) w
    · exact readerof_num3 _ rfl (markat m3) w
    · exact readerof_word _ 4 (by decide) (by decide) (.inl ⟨by decide, rfl⟩) (markat m4) w
    · exact readerof_word _ 5 (by decide) (by decide) (.inl ⟨by decide, rfl⟩) (markat m5) w
    · exact readerof_word _ 6 (by decide) (by decide) (.inl ⟨by decide, rfl⟩) (markat m6) w
    · exact readerof_var _ rfl (markat m9) w
  · exact readerof_word c (-1) (by decide) (by decide) (.inr fun j h0 h9 e => hm (e ▸ mark_mem h0 h9)) (markat (mark_none hm)) w
end Go.Proofs.YtogdbfjagnbllaaGreatDoor

namespace Go.Proofs.YtogdbfjagnbllaaGreatDoor
open Go.RowKit Go

/-- What a reading of an item tells. -/
def RItemEnd (l : List UInt8) (w : World) (e : Ending) (w' : World) : Prop := ∃ (it : It) (b : Bool), e = .returned (.tuple #[itVal it, .bool b]) ∧ ReadsItem l it b ∧ Below w.heap.size w w'
theorem RItemEnd.of {l : List UInt8} {w w' : World} {it : It} {b : Bool} (h : ReadsItem l it b) (hb : Below w.heap.size w w') : RItemEnd l w (.returned (.tuple #[itVal it, .bool b])) w' := ⟨it, b, rfl, h, hb⟩
theorem read_word_end (c : UInt8) (k : Int) (s : ByteArray) (hs : s.size ≤ 1048576) (g : Nat) (w : World) (hk : -1 ≤ k ∧ k ≤ 9) (hc : (k = 2 ∨ k = 4 ∨ k = 5 ∨ k = 6) ∧ c = markOf k ∨ (∀ j : Int, 0 ≤ j → j ≤ 9 → markOf j ≠ c)) (h : w.cell? ⟨g, 0, none⟩ = some (.int .i64 k)) :
    Calls Tryz.prog 107 #[.string s, .pointer (some ⟨g, 0, none⟩)] w (ReadEnd c s.data.toList w) := by
  refine (read_word k s g w h).mono ?_
  rintro e w' ⟨rfl, hb⟩
  refine ⟨⟨k, s, 0, false, 0⟩, rfl, ?_, hb⟩
  rcases hc with ⟨h1, rfl⟩ | h1
  · exact only_word h1 (by omega) rfl
  · exact only_none h1 _ (only_in hk (by omega) (by omega) (by omega) (by omega))
theorem text_str {l : List UInt8} {t : ByteArray} (h : (⟨l.toArray⟩ : ByteArray) = t) : t.data.toList = l := by rw [← h]
theorem stringclone_any (s : ByteArray) (hs : s.size ≤ 281474976710656) (w : World) : Calls Tryz.prog 51 #[.string s] w fun e w' => e = .returned (.string s) ∧ Below w.heap.size w w' := by
  have HC := Lib.hid (fun W => Tryz.stringslite_Clone s W hs)
  clear hs
  go_enter Tryz.func51, Tryz.ntmps51
  go_wp2_with fail
  refine (HC.out _).mono ?_
  rintro e w1 ⟨rfl, hb1⟩
  have HB := Lib.hid hb1
  clear hb1
  go_wp2_with fail
  go_ret
  exact ⟨rfl, HB.out⟩
theorem list_ne {a b : ByteArray} (h : a.data.toList ≠ b.data.toList) : (a.toList == b.toList) = false := by
  rw [ByteArray.toList_eq, ByteArray.toList_eq]; simpa using h
theorem name_small {it : It} (h : textOf it ≠ []) : it.name.size ≤ 24 := by
  have hc : cellsOf it ≠ [] := fun e => h (text_no e)
  rcases form_of hc with ⟨_, e, _⟩ | ⟨_, e, _⟩ | ⟨_, _, _, e⟩ | ⟨_, _, _, _, e⟩
  · rw [e]; decide
  · rw [e]; decide
  · exact nameL_size e
  · exact nameL_size e
theorem box_size {w w1 : World} {o : Obj} (h : Below (w.heap.size + 1) (w.alloc o) w1) : w.heap.size + 1 ≤ w1.heap.size := by have := h.size; simpa using this
theorem ba_eq {a b : ByteArray} (h : a.data.toList = b.data.toList) : a = b := bytes_of_list h

set_option maxHeartbeats 4000000 in
theorem impl_readitem_empty (w : World) : Calls Tryz.prog 19 #[.string ⟨#[]⟩] w (RItemEnd [] w) := by
  go_enter Tryz.func19, Tryz.ntmps19
  go_wp2_with fail
  have hk := Blk.new w 38 (itC 0 ⟨#[]⟩ 0 false 0)
  have hbl := (Below.refl w.heap.size w).alloc (Nat.le_refl _) (.cells (itC 0 ⟨#[]⟩ 0 false 0) 38)
  show bodyPost _ _ _ _ _ (w.alloc (.cells (itC 0 ⟨#[]⟩ 0 false 0) 38))
  generalize w.alloc (.cells (itC 0 ⟨#[]⟩ 0 false 0) 38) = W5 at hk hbl ⊢
  obtain ⟨e0, e1, e2, e3, e4, -⟩ := itC_cells hk
  clear hk
  exact bodyPost_ret (v := .tuple #[itA 0 ⟨#[]⟩ 0 false 0, .bool false]) (by simp [results, Tryz.results19, e0, e1, e2, e3, e4, go_sem]) rfl (RItemEnd.of reads_empty hbl)

set_option maxRecDepth 100000 in
set_option maxHeartbeats 8000000 in
theorem impl_readitem_some (s : ByteArray) (hs0 : 0 < s.size) (hs : s.size ≤ 1048576) (l : List UInt8) (hl : s.data.toList = s[0] :: l) (w : World) (hi : ReadIn w) :
    Calls Tryz.prog 19 #[.string s] w (RItemEnd s.data.toList w) := by
  have he : s.toList.isEmpty = false := by rw [ByteArray.toList_eq, hl]; rfl
  have HR := Lib.hid (fun W => readerof_any s[0] W)
  have HI := Lib.hid (fun o => hi.alloc o)
  obtain ⟨t, ht⟩ : ∃ t : ByteArray, s.extract 1 s.size = t := ⟨_, rfl⟩
  have htl : t.data.toList = l := by
    have e2 : s.data.toList.length = s.size := by simp
    rw [hl] at e2
    simp only [List.length_cons] at e2
    rw [← ht]
    simp only [ByteArray.data_extract, Array.toList_extract, hl, List.extract]
    exact List.take_of_length_le (by simp only [List.drop_succ_cons, List.drop_zero]; omega)
  have hts : t.size ≤ 1048576 := by
    have e1 : t.data.toList.length = t.size := by simp
    have e2 : s.data.toList.length = s.size := by simp
    rw [htl] at e1
    rw [hl] at e2
    simp at e2
    omega
  have HL := Lib.hid (And.intro hl htl)
  have HTS := Lib.hid hts
  have HSZ := Lib.hid hs
  clear hi hl htl hts
  go_enter Tryz.func19, Tryz.ntmps19
  go_wp2_with fail
  refine (HR.out _).mono ?_
  rintro e w1 ⟨⟨fv, rfl, hfv⟩, hb1⟩
  have HI1 := Lib.hid ((HI.out _).below hb1)
  have HX1 := Lib.hid (box_mono (box_start w _) (hb1.mono (by simp)))
  clear hb1
  rcases hfv with h37 | h38 | ⟨a, k, g1, g2, g3, hsh, hcm, c1, c2, c3⟩ | ⟨k, g, hk, hcm, c1⟩
  case' raw => have HC := Lib.hid (show Calls Tryz.prog 77 #[.string t] w1 (ReadEnd s[0] t.data.toList w1) from h37 ▸ read_raw t HTS.out w1 HI1.out); clear h37
  case' var => have HC := Lib.hid (show Calls Tryz.prog 80 #[.string t] w1 (ReadEnd s[0] t.data.toList w1) from h38 ▸ read_var t HTS.out w1 HI1.out); clear h38
  case' num => have HC := Lib.hid (show Calls Tryz.prog 104 #[.string t, .pointer (some ⟨g1, 0, none⟩), .pointer (some ⟨g2, 0, none⟩)] w1 (ReadEnd s[0] t.data.toList w1) from hcm ▸ read_num a k hsh t HTS.out g1 g2 g3 w1 HI1.out c1 c2 c3); clear hsh hcm c1 c2 c3
  case' word => have HC := Lib.hid (show Calls Tryz.prog 107 #[.string t, .pointer (some ⟨g, 0, none⟩)] w1 (ReadEnd s[0] t.data.toList w1) from read_word_end s[0] k t HTS.out g w1 hk hcm c1); clear hk hcm c1
  all_goals
    go_wp2_with fail
    refine (HC.out).mono ?_
    rintro e w2 ⟨⟨k, nm, n, x, r⟩, rfl, hon, hb2⟩
    have HX2 := Lib.hid (box_mono HX1.out hb2)
    have HI2 := Lib.hid (HI1.out.below hb2)
    rw [HL.out.2] at hon
    have hin := hon.1
    have HON := Lib.hid hon
    have HS := Lib.hid (fun W (h : TextIn W) => impl_itemtext ⟨k, nm, n, x, r⟩ hin W h)
    unfold TextEnd at HS
    obtain ⟨u, hu⟩ : ∃ u : ByteArray, (⟨(textOf ⟨k, nm, n, x, r⟩).toArray⟩ : ByteArray) = u := ⟨_, rfl⟩
    have HU := Lib.hid (text_str hu)
    rw [hu] at HS
    have HSN := Lib.hid hin.s
    have k3 := Blk.new w2 38 (itC k nm n x (r : Int))
    have HX3 := Lib.hid (HX2.out.alloc (box_size HX2.out) (.cells (itC k nm n x (r : Int)) 38))
    have HT3 := Lib.hid (HI2.out.alloc (.cells (itC k nm n x (r : Int)) 38)).text
    have HLT : Hid (w.heap.size < w2.heap.size) := Lib.hid (by have := box_size HX2.out; omega)
    have K3 := Lib.hid k3
    clear hb2 hon hin hu k3 HC
    go_wp2_with fail
    refine (HS.out _ HT3.out).mono ?_
    rintro e w4 ⟨rfl, hb4⟩
    have hx4 := box_mono HX3.out hb4
    have k4 := K3.out.below hb4 (by simp)
    have r4 : Blk w4 w.heap.size 38 (itC 0 ⟨#[]⟩ 0 false 0) := res_blk hx4
    have hlt4 : w2.heap.size < w4.heap.size := by have := hb4.size; simp at this; omega
    have HX4 := Lib.hid hx4
    have K4 := Lib.hid k4
    have R4 := Lib.hid r4
    have HLT4 := Lib.hid hlt4
    by_cases heq : u.data.toList = s.data.toList
    · have hus : u = s := ba_eq heq
      subst hus
      have HCL := Lib.hid (fun W => stringclone_any nm (Nat.le_trans (name_small (it := ⟨k, nm, n, x, r⟩) (fun e => by have e1 := HU.out.symm.trans HL.out.1; rw [e] at e1; cases e1)) (by decide)) W)
      obtain ⟨c0, c1, c2, c3, c4, f0, f1, f2, f3, f4⟩ := itC_cells k4
      have hz4 := hlt4
      clear hb4 hx4 k4 r4 heq HS hlt4
      go_wp2_with fail
      refine (HCL.out _).mono ?_
      rintro e w5 ⟨rfl, hb5⟩
      have hx5 := box_mono HX4.out hb5
      have k5 := K4.out.below hb5 HLT4.out
      have r5 : Blk w5 w.heap.size 38 (itC 0 ⟨#[]⟩ 0 false 0) := res_blk hx5
      have hne1 : w.heap.size ≠ w2.heap.size := Nat.ne_of_lt HLT.out
      have hne2 : w2.heap.size ≠ w.heap.size := Ne.symm hne1
      have k6 : Blk (w5.setCell ⟨w2.heap.size, 1, none⟩ (.string nm)) w2.heap.size 38 (itC k nm n x (r : Int)) := k5.put 1 (.string nm)
      have r6 := r5.far (p := ⟨w2.heap.size, 1, none⟩) hne1 (.string nm)
      have hb6 := (box_below hx5).setCell (p := ⟨w2.heap.size, 1, none⟩) (Nat.le_of_lt HLT.out) (.string nm)
      have hlt6 : w2.heap.size < w5.heap.size := k5.lt
      obtain ⟨c0, c1, c2, c3, c4, f0, f1, f2, f3, f4⟩ := itC_cells k5
      obtain ⟨d0, d1, d2, d3, d4, q0, q1, q2, q3, q4⟩ := itC_cells k6
      obtain ⟨p0, p1, p2, p3, p4, t0, t1, t2, t3, t4⟩ := itC_cells r6
      have R6 := Lib.hid r6
      have HB6 := Lib.hid hb6
      have HOK := Lib.hid (only_yes HON.out (HU.out.symm.trans HL.out.1))
      clear hb5 hx5 k5 r5 k6 r6 hb6
      go_wp2_with fail
      have hk := putIt_blk R6.out k nm n x (r : Int)
      have hbl := putIt_below (g := w.heap.size) HB6.out (Nat.le_refl _) k nm n x (r : Int)
      show bodyPost _ _ _ _ _ (putIt _ _ k nm n x (r : Int))
      generalize putIt _ _ k nm n x (r : Int) = W5 at hk hbl ⊢
      obtain ⟨e0, e1, e2, e3, e4, -⟩ := itC_cells hk
      clear hk
      exact bodyPost_ret (v := .tuple #[itA k nm n x (r : Int), .bool true]) (by simp [results, Tryz.results19, e0, e1, e2, e3, e4, go_sem]) rfl (RItemEnd.of (it := ⟨k, nm, n, x, r⟩) (HL.out.1 ▸ HOK.out) hbl)
    · have hne := list_ne heq
      obtain ⟨d0, d1, d2, d3, d4, f0, f1, f2, f3, f4⟩ := itC_cells r4
      have HOK := Lib.hid (only_no HON.out (fun e => heq (HU.out.trans (e.trans HL.out.1.symm))))
      clear hb4 hx4 k4 r4 heq HS hlt4
      go_wp2_with fail
      have hk := putIt_blk R4.out 0 ⟨#[]⟩ 0 false 0
      have hbl := putIt_below (g := w.heap.size) (box_below HX4.out) (Nat.le_refl _) 0 ⟨#[]⟩ 0 false 0
      show bodyPost _ _ _ _ _ (putIt _ _ 0 ⟨#[]⟩ 0 false 0)
      generalize putIt _ _ 0 ⟨#[]⟩ 0 false 0 = W5 at hk hbl ⊢
      obtain ⟨e0, e1, e2, e3, e4, -⟩ := itC_cells hk
      clear hk
      exact bodyPost_ret (v := .tuple #[itA 0 ⟨#[]⟩ 0 false 0, .bool false]) (by simp [results, Tryz.results19, e0, e1, e2, e3, e4, go_sem]) rfl (RItemEnd.of (HL.out.1 ▸ HOK.out) hbl)
/-- Reading an item: the one whose text it is. -/
theorem impl_readitem (s : ByteArray) (hs : s.size ≤ 1048576) (w : World) (hi : ReadIn w) : Calls Tryz.prog 19 #[.string s] w (RItemEnd s.data.toList w) := by
  by_cases h0 : 0 < s.size
  · obtain ⟨c, l, e⟩ : ∃ c l, s.data.toList = c :: l := by
      cases e : s.data.toList with
      | nil => have : s.data.toList.length = s.size := by simp
               rw [e] at this; simp at this; omega
      | cons c l => exact ⟨c, l, rfl⟩
    have ec : s[0] = c := by
      have h1 : s.data.toList[0]'(by rw [e]; simp) = s[0] := rfl
      rw [← h1]; simp [e]
    exact impl_readitem_some s h0 hs l (by rw [e, ec]) w hi
  · have e : s = ⟨#[]⟩ := ba_eq (by
      have : s.data.toList.length = s.size := by simp
      exact List.eq_nil_of_length_eq_zero (by omega))
    subst e
    exact impl_readitem_empty w
end Go.Proofs.YtogdbfjagnbllaaGreatDoor

namespace Go.Proofs.YtogdbfjagnbllaaGreatDoor
open Go

/-- A number of 32 bits with a sign, read from its text. -/
def Reads32 (l : List UInt8) (n : Int) (b : Bool) : Prop :=
  (b = true ∧ -2147483648 ≤ n ∧ n ≤ 2147483647 ∧ l = Lib.itoa n) ∨ (b = false ∧ n = 0 ∧ ∀ m : Int, -2147483648 ≤ m → m ≤ 2147483647 → l ≠ Lib.itoa m)
theorem Reads32.of {l : List UInt8} {n : Int} {b : Bool} (h : ReadsDec l n b) (hy : b = true → -2147483648 ≤ n ∧ n ≤ 2147483647) : Reads32 l (if b = true then n else 0) b := by
  rcases h with ⟨h1, h2, h3, h4⟩ | ⟨h1, h2, h3⟩
  · subst h1
    exact .inl ⟨rfl, (hy rfl).1, (hy rfl).2, h4⟩
  · subst h1
    exact .inr ⟨rfl, rfl, fun m a b => h3 m (by omega) (by omega)⟩
theorem Reads32.out {l : List UInt8} {n : Int} (h : ReadsDec l n true) (hn : ¬ (-2147483648 ≤ n ∧ n ≤ 2147483647)) : Reads32 l 0 false := by
  rcases h with ⟨_, h2, h3, h4⟩ | ⟨h1, _⟩
  · exact .inr ⟨rfl, rfl, fun m a b e => hn (by rw [itoa_inj (h4.symm.trans e)]; exact ⟨a, b⟩)⟩
  · cases h1
theorem Reads32.in32 {l : List UInt8} {n : Int} {b : Bool} (h : Reads32 l n b) : -2147483648 ≤ n ∧ n ≤ 2147483647 := by
  rcases h with ⟨_, h2, h3, _⟩ | ⟨_, h2, _⟩ <;> omega

/-- An item read behind the mark of a kind: whatever item of that kind has this text is the one. -/
def TailIs (k : Int) (l : List UInt8) (it : It) (b : Bool) : Prop :=
  ItIn it ∧ ∀ j : It, ItIn j → ItForm j → j.kind = k → tailOf j = l → it = j ∧ b = true
theorem no_size : noText.size ≤ 4611686018427387904 := by decide
theorem in_of {k n : Int} {nm : ByteArray} {x : Bool} {r : Nat} (k1 : -9223372036854775808 ≤ k) (k2 : k ≤ 9223372036854775807) (n1 : -2147483648 ≤ n) (n2 : n ≤ 2147483647) (hr : r < 4294967296) (hs : nm.size ≤ 4611686018427387904) : ItIn ⟨k, nm, n, x, r⟩ := ⟨k1, k2, n1, n2, hr, hs⟩
theorem kind_in {k : Int} (h : 0 ≤ k ∧ k ≤ 9) : -9223372036854775808 ≤ k ∧ k ≤ 9223372036854775807 := by omega
theorem TailIs.raw {l : List UInt8} {n : Nat} {b : Bool} (h : ReadsHex l n b) (hn : n < 4294967296) : TailIs 0 l ⟨0, noText, 0, false, n⟩ b := by
  refine ⟨in_of (k := 0) (n := 0) (by decide) (by decide) (by decide) (by decide) hn (nm := noText) (by decide), fun j ji jf jk jt => ?_⟩
  rw [tail_raw jk] at jt
  rcases jf with ⟨_, e1, e2, e3⟩ | ⟨h0, _⟩ | ⟨h0, _⟩ | ⟨h0, _⟩
  · obtain ⟨k, nm, m, x, r⟩ := j
    simp only at jk e1 e2 e3 jt
    subst jk e1 e2 e3
    rcases h with ⟨h1, h2, h3⟩ | ⟨h1, h2, h3⟩
    · exact ⟨by rw [hex_inj (jt.trans h3)], h1⟩
    · exact absurd jt.symm (h3 r ji.r)
  all_goals omega
theorem TailIs.hex {k : Int} (hk : k = 7 ∨ k = 8) {l : List UInt8} {n : Nat} {b : Bool} (h : ReadsHex l n b) (hn : n < 4294967296) : TailIs k (36 :: l) ⟨k, noText, sgn n, true, 0⟩ b := by
  have hs := sgn_in hn
  refine ⟨⟨by show _ ≤ k; omega, by show k ≤ _; omega, hs.1, hs.2, by show 0 < _; decide, no_size⟩, fun j ji jf jk jt => ?_⟩
  rw [tail_num (by rw [jk]; exact hk)] at jt
  rcases jf with ⟨h0, _⟩ | ⟨_, e1, e2⟩ | ⟨h0, _⟩ | ⟨h0, _⟩
  · omega
  · obtain ⟨k', nm, m, x, r⟩ := j
    have j1 := ji.n1
    have j2 := ji.n2
    simp only at jk e1 e2 jt j1 j2
    subst jk e1 e2
    cases x with
    | false => simp at jt
    | true =>
      simp only [if_true, List.cons.injEq, true_and] at jt
      rcases h with ⟨h1, h2, h3⟩ | ⟨h1, h2, h3⟩
      · have e := hex_inj (jt.trans h3)
        exact ⟨by rw [← e, sgn_low j1 j2], h1⟩
      · exact absurd jt.symm (h3 _ (lowN_lt _))
  all_goals omega
theorem TailIs.dec {k : Int} (hk : k = 7 ∨ k = 8) {c : UInt8} (hc : c ≠ 36) {l : List UInt8} {n : Int} {b : Bool} (h : Reads32 l n b) : TailIs k (c :: l) ⟨k, noText, n, false, 0⟩ b := by
  have hs := h.in32
  refine ⟨⟨by show _ ≤ k; omega, by show k ≤ _; omega, hs.1, hs.2, by show 0 < _; decide, no_size⟩, fun j ji jf jk jt => ?_⟩
  rw [tail_num (by rw [jk]; exact hk)] at jt
  rcases jf with ⟨h0, _⟩ | ⟨_, e1, e2⟩ | ⟨h0, _⟩ | ⟨h0, _⟩
  · omega
  · obtain ⟨k', nm, m, x, r⟩ := j
    have j1 := ji.n1
    have j2 := ji.n2
    simp only at jk e1 e2 jt j1 j2
    subst jk e1 e2
    cases x with
    | true => exact absurd (List.cons.inj jt).1.symm hc
    | false =>
      simp only [Bool.false_eq_true, if_false, List.cons.injEq] at jt
      rcases h with ⟨h1, h2, h3, h4⟩ | ⟨h1, h2, h3⟩
      · exact ⟨by rw [itoa_inj (jt.2.trans h4)], h1⟩
      · exact absurd jt.2.symm (h3 _ j1 j2)
  all_goals omega
theorem TailIs.var {nm : ByteArray} (hs : nm.size ≤ 4611686018427387904) {a l : List UInt8} (ha : nm.data.toList = a) (hn : (35 : UInt8) ∉ a) {n : Int} {b : Bool} (h : Reads32 l n b) : TailIs 9 (a ++ 35 :: l) ⟨9, nm, n, false, 0⟩ b := by
  have hi := h.in32
  refine ⟨⟨by show -9223372036854775808 ≤ (9 : Int); decide, by show (9 : Int) ≤ _; decide, hi.1, hi.2, by show 0 < _; decide, hs⟩, fun j ji jf jk jt => ?_⟩
  rw [tail_var jk] at jt
  rcases jf with ⟨h0, _⟩ | ⟨h0, _⟩ | ⟨_, e1, e2, e3⟩ | ⟨h0, _⟩
  · omega
  · omega
  · obtain ⟨k', nm', m, x, r⟩ := j
    have j1 := ji.n1
    have j2 := ji.n2
    simp only at jk e1 e2 e3 jt j1 j2
    subst jk e1 e2
    obtain ⟨p1, p2⟩ := split_inj (nameL_noHash e3).1 hn jt
    rcases h with ⟨h1, h2, h3, h4⟩ | ⟨h1, h2, h3⟩
    · exact ⟨by rw [itoa_inj (p2.trans h4), bytes_of_list (p1.trans ha.symm)], h1⟩
    · exact absurd p2.symm (h3 _ j1 j2)
  · omega
theorem TailIs.var_no {l : List UInt8} (hn : (35 : UInt8) ∉ l) : TailIs 9 l (rawIt 0) false := by
  refine ⟨⟨by decide, by decide, by decide, by decide, by decide, by decide⟩, fun j ji jf jk jt => ?_⟩
  rw [tail_var jk] at jt
  exact absurd (by rw [← jt]; simp) hn
theorem TailIs.word {k : Int} (hk : 1 ≤ k ∧ k ≤ 6) {nm : ByteArray} (hs : nm.size ≤ 4611686018427387904) {l : List UInt8} (hl : nm.data.toList = l) : TailIs k l ⟨k, nm, 0, false, 0⟩ true := by
  refine ⟨⟨by show _ ≤ k; omega, by show k ≤ _; omega, by show _ ≤ (0 : Int); decide, by show (0 : Int) ≤ _; decide, by show 0 < _; decide, hs⟩, fun j ji jf jk jt => ?_⟩
  rw [tail_word (by rw [jk]; exact hk)] at jt
  rcases jf with ⟨h0, _⟩ | ⟨h0, _⟩ | ⟨h0, _⟩ | ⟨_, e1, e2, e3, e4⟩
  · omega
  · omega
  · omega
  · obtain ⟨k', nm', m, x, r⟩ := j
    simp only at jk e1 e2 e3 jt
    subst jk e1 e2 e3
    exact ⟨by rw [bytes_of_list (hl.trans jt.symm)], rfl⟩

/-- No item of a kind below this one has the text. -/
def NoneBelow (l : List UInt8) (k : Int) : Prop := ∀ j : It, ItIn j → cellsOf j ≠ [] → j.kind < k → l ≠ textOf j
theorem NoneBelow.start (l : List UInt8) : NoneBelow l 0 := fun j _ h hk => by have := form_kind (form_of h); omega
theorem NoneBelow.short {l : List UInt8} (h : l.length < 2) (k : Int) : NoneBelow l k := fun j _ hc _ e => by have := text_len hc; rw [← e] at this; omega
theorem NoneBelow.mark {c : UInt8} {l : List UInt8} {k : Int} (h : NoneBelow (c :: l) k) (hc : c ≠ markOf k) : NoneBelow (c :: l) (k + 1) := fun j ji jc jk e => by
  by_cases hk : j.kind < k
  · exact h j ji jc hk e
  · rw [text_yes jc] at e
    exact hc (by rw [(List.cons.inj e).1, show j.kind = k by omega])
theorem NoneBelow.num {c d : UInt8} {l : List UInt8} {k : Int} (h : NoneBelow (c :: d :: l) k) (hc : ¬ ((d = 35 ∨ d = 36) ↔ (k = 7 ∨ k = 8))) : NoneBelow (c :: d :: l) (k + 1) := fun j ji jc jk e => by
  by_cases hk : j.kind < k
  · exact h j ji jc hk e
  · rw [text_yes jc] at e
    obtain ⟨c', l', e1, e2⟩ := tail_first (form_of jc)
    rw [e1] at e
    have := (List.cons.inj (List.cons.inj e).2).1
    rw [show j.kind = k by omega, ← this] at e2
    exact hc e2
theorem NoneBelow.tail {c : UInt8} {l : List UInt8} {k : Int} (h : NoneBelow (c :: l) k) {it : It} {b : Bool} (ht : TailIs k l it b) (hn : ¬ (b = true ∧ textOf it = c :: l)) : NoneBelow (c :: l) (k + 1) := fun j ji jc jk e => by
  by_cases hk : j.kind < k
  · exact h j ji jc hk e
  · have e0 := e
    rw [text_yes jc] at e
    obtain ⟨e1, e2⟩ := ht.2 j ji (form_of jc) (by omega) (List.cons.inj e).2.symm
    exact hn ⟨e2, by rw [e1, ← e0]⟩
theorem NoneBelow.all {l : List UInt8} (h : NoneBelow l 10) : ReadsItem l (rawIt 0) false :=
  .inr ⟨rfl, rfl, fun j ji jc => h j ji jc (by have := form_kind (form_of jc); omega)⟩
theorem reads_yes {l : List UInt8} {k : Int} {it : It} {b : Bool} (ht : TailIs k l it b) {c : UInt8} (he : textOf it = c :: l) : ReadsItem (c :: l) it true :=
  .inl ⟨rfl, fun h => (by rw [text_no h] at he; cases he), ht.1, he.symm⟩
end Go.Proofs.YtogdbfjagnbllaaGreatDoor
