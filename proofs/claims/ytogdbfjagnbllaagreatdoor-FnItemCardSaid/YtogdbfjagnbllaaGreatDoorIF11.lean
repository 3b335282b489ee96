/-
  The model's reading of an item: the one item whose text it is, or none.
  laws.eqItem tells that an item is itself.
  The law laws.FnExactReadItem, as a walk: the model's reading of an item and the program's are one, whatever the tables of kinds and codes hold.
  laws.FnItem answers true at every input, whatever the tables of kinds and codes hold.
  A row whose condition lists what some package-level variables hold: the world's shape (which kinds the cells of the other variables have) is at hand in the walk too.
-/
import Derived.Test.YtogdbfjagnbllaaGreatDoorIF10
import Derived.Test.YtogdbfjagnbllaaGreatDoorIF7
import Derived.Test.YtogdbfjagnbllaaGreatDoorIF9
import Derived.Test.YtogdbfjagnbllaaGreatDoorIF6
import Derived.HandedShaped
import Derived.Test.YtogdbfjagnbllaaGreatDoorIF3
namespace Go.Proofs.YtogdbfjagnbllaaGreatDoor
open Go.RowKit Go

abbrev resO : Obj := .cells (itC 0 ⟨#[]⟩ 0 false 0) 38
theorem mark_text {m : ByteArray} {k : Int} (h : (⟨#[markOf k]⟩ : ByteArray) = m) : m.data.toList = [markOf k] := by rw [← h]
theorem head_text {s : ByteArray} {c : UInt8} {l : List UInt8} (h : s.data.toList = c :: l) : (s.extract 0 1).data.toList = [c] := by
  simp [ByteArray.data_extract, Array.toList_extract, h, List.extract]
theorem bytes_cmp {a b : ByteArray} {x y : UInt8} (ha : a.data.toList = [x]) (hb : b.data.toList = [y]) : (a.toList == b.toList) = (x == y) := by
  rw [ByteArray.toList_eq, ByteArray.toList_eq, ha, hb]; simp
theorem second_is {s : ByteArray} {c d : UInt8} {l : List UInt8} (h : s.data.toList = c :: d :: l) (hs : 1 < s.size) : s[1] = d := by
  have h1 : s.data.toList[1]'(by rw [h]; simp) = s[1] := rfl
  rw [← h1]; simp [h]
theorem u8_eqb {a : UInt8} {n : Nat} (hn : n < 256) : ((a.toNat : Int) == (n : Int)) = (a == UInt8.ofNat n) := by
  by_cases h : a = UInt8.ofNat n
  · subst h
    simp [Nat.mod_eq_of_lt hn]
  · have h2 : a.toNat ≠ n := fun e => h (UInt8.toNat_inj.1 (by simp [e, Nat.mod_eq_of_lt hn]))
    have h3 : (a == UInt8.ofNat n) = false := by simpa using h
    rw [h3]
    simp only [beq_eq_false_iff_ne, ne_eq]
    omega

theorem num_cases (d : UInt8) : (((d.toNat : Int) == 35) = true ∧ ((d.toNat : Int) == 36) = false ∧ (d = 35 ∨ d = 36)) ∨ (((d.toNat : Int) == 35) = false ∧ ((d.toNat : Int) == 36) = true ∧ (d = 35 ∨ d = 36)) ∨ (((d.toNat : Int) == 35) = false ∧ ((d.toNat : Int) == 36) = false ∧ ¬ (d = 35 ∨ d = 36)) := by
  have h1 := u8_eqb (a := d) (n := 35) (by decide)
  have h2 := u8_eqb (a := d) (n := 36) (by decide)
  by_cases a : d = 35
  · subst a; exact .inl ⟨rfl, rfl, .inl rfl⟩
  by_cases b : d = 36
  · subst b; exact .inr (.inl ⟨rfl, rfl, .inr rfl⟩)
  have a2 : (d == UInt8.ofNat 35) = false := by simpa using a
  have b2 : (d == UInt8.ofNat 36) = false := by simpa using b
  exact .inr (.inr ⟨h1.trans a2, h2.trans b2, fun h => h.elim a b⟩)
theorem kind_cases (k : Int) : ((k == 7) = true ∧ (k == 8) = false ∧ (k = 7 ∨ k = 8)) ∨ ((k == 7) = false ∧ (k == 8) = true ∧ (k = 7 ∨ k = 8)) ∨ ((k == 7) = false ∧ (k == 8) = false ∧ ¬ (k = 7 ∨ k = 8)) := by
  by_cases a : k = 7
  · subst a; exact .inl ⟨rfl, rfl, .inl rfl⟩
  by_cases b : k = 8
  · subst b; exact .inr (.inl ⟨rfl, rfl, .inr rfl⟩)
  exact .inr (.inr ⟨by simpa using a, by simpa using b, fun h => h.elim a b⟩)

set_option maxRecDepth 100000 in
set_option maxHeartbeats 4000000 in
theorem spec_readitem_short (s : ByteArray) (hs : s.size < 2) (w : World) : Calls Tryz.prog 22 #[.string s] w (RItemEnd s.data.toList w) := by
  have hsl : s.data.toList.length = s.size := by simp
  have HN := Lib.hid (NoneBelow.all (NoneBelow.short (l := s.data.toList) (by omega) 10))
  have h2 : (s.size : Int) < 2 := by omega
  clear hsl hs
  go_enter Tryz.func22, Tryz.ntmps22
  go_wp2_with fail
  go_loopw [4, 5, 6, 7] (fun vk _ _ _ wr => ∃ k : Nat, k ≤ 10 ∧ vk = .int .i64 k ∧ Below (w.heap.size + 1) (w.alloc resO) wr) (fun vk _ _ _ _ => 10 - (intOf vk).toNat)
  case atStart => exact ⟨0, by decide, rfl, Below.refl _ _⟩
  case round =>
    rename World => wr
    obtain ⟨k, hk, rfl, hB⟩ := hrel
    by_cases hk9 : k ≤ 9
    · have i1 : (k : Int) ≤ 9 := by omega
      have HB := Lib.hid hB
      clear hB
      go_wp2_with fail
      go_quiet (fail)
      go_wp2_with fail
      go_roundw
      case rel => exact ⟨k + 1, by omega, by go_num, below_drewN HB.out _⟩
      case measure => simp [intOf]; omega
    · have i1 : ¬ ((k : Int) ≤ 9) := by omega
      have k1 : Blk wr w.heap.size 38 (itC 0 ⟨#[]⟩ 0 false 0) := res_blk hB
      obtain ⟨d0, d1, d2, d3, d4, f0, f1, f2, f3, f4⟩ := itC_cells k1
      have HB := Lib.hid (box_below hB)
      have K1 := Lib.hid k1
      clear hB k1 hk hk9
      go_wp2_with fail
      have hk := putIt_blk K1.out 0 ⟨#[]⟩ 0 false 0
      have hbl := putIt_below (g := w.heap.size) HB.out (Nat.le_refl _) 0 ⟨#[]⟩ 0 false 0
      show bodyPost _ _ _ _ _ (putIt _ _ 0 ⟨#[]⟩ 0 false 0)
      generalize putIt _ _ 0 ⟨#[]⟩ 0 false 0 = W5 at hk hbl ⊢
      obtain ⟨e0, e1, e2, e3, e4, -⟩ := itC_cells hk
      clear hk
      exact bodyPost_ret (v := .tuple #[itA 0 ⟨#[]⟩ 0 false 0, .bool false]) (by simp [results, Tryz.results22, e0, e1, e2, e3, e4, go_sem]) rfl (RItemEnd.of (it := rawIt 0) HN.out hbl)

set_option maxRecDepth 100000 in
set_option maxHeartbeats 16000000 in
theorem spec_readitem_long (s : ByteArray) (hs2 : 2 ≤ s.size) (hs : s.size ≤ 1048576) (c d : UInt8) (l : List UInt8) (hl : s.data.toList = c :: d :: l) (w : World) : Calls Tryz.prog 22 #[.string s] w (RItemEnd s.data.toList w) := by
  obtain ⟨t, ht⟩ : ∃ t : ByteArray, s.extract 1 s.size = t := ⟨_, rfl⟩
  have htl : t.data.toList = d :: l := by rw [← ht]; exact drop1 hl
  have hts : 0 < t.size ∧ t.size ≤ 1048576 := ⟨by rw [← ht]; simp; omega, by rw [← ht]; exact drop1_size hs⟩
  have HT : Hid (∀ k : Int, 0 ≤ k ∧ k ≤ 9 → ∀ W, Calls Tryz.prog 59 #[.int .i64 k, .string t] W (TailEnd k (d :: l) W)) := Lib.hid fun k hk W => htl ▸ spec_tail k hk t hts.1 hts.2 W
  have HI : Hid (∀ it, ItIn it → ∀ W, Calls Tryz.prog 40 #[itVal it] W (TextEnd (textOf it) W)) := Lib.hid fun it hin W => spec_itemtext it hin W
  obtain ⟨q, hq⟩ : ∃ q : ByteArray, s.extract 0 1 = q := ⟨_, rfl⟩
  have HQ : Hid (q.data.toList = [c]) := Lib.hid (by rw [← hq]; exact head_text hl)
  have HD : Hid (s[1] = d) := Lib.hid (second_is hl (by omega))
  have HS0 := Lib.hid (NoneBelow.start s.data.toList)
  have HL := Lib.hid hl
  have h2 : ¬ ((s.size : Int) < 2) := by omega
  have i0 : (1 : Int) ≤ (s.size : Int) := by omega
  have i1 : 1 < s.size := by omega
  clear htl hts hs hl
  go_enter Tryz.func22, Tryz.ntmps22
  go_wp2_with fail
  go_loopw [4, 5, 6, 7] (fun vk _ _ _ wr => ∃ k : Nat, k ≤ 10 ∧ vk = .int .i64 k ∧ Hid (NoneBelow s.data.toList k) ∧ Below (w.heap.size + 1) (w.alloc resO) wr) (fun vk _ _ _ _ => 10 - (intOf vk).toNat)
  case atStart => exact ⟨0, by decide, rfl, HS0, Below.refl _ _⟩
  case round =>
    rename World => wr
    obtain ⟨k, hk, rfl, HNB, hB⟩ := hrel
    by_cases hk9 : k ≤ 9
    · have i9 : (k : Int) ≤ 9 := by omega
      have HB := Lib.hid hB
      obtain ⟨m, hm⟩ : ∃ m : ByteArray, (⟨#[markOf k]⟩ : ByteArray) = m := ⟨_, rfl⟩
      have HM := Lib.hid (fun W => spec_mark k (by omega) W)
      rw [hm] at HM
      have hcmp := bytes_cmp HQ.out (mark_text hm)
      have HMT := Lib.hid (HT.out k (by omega))
      clear hB hm
      by_cases hc : c = markOf k
      · have hcm : (q.toList == m.toList) = true := by rw [hcmp, hc]; simp
        have HC := Lib.hid hc
        clear hcmp hc
        go_wp2_with fail
        go_quiet (exact Calls.quiet_of_same ((HM.out _).mono fun e w2 ⟨h1, h2⟩ => ⟨h1, h2.symm⟩))
        have hd := HD.out
        rcases num_cases d with ⟨hd1, hd2, hd3⟩ | ⟨hd1, hd2, hd3⟩ | ⟨hd1, hd2, hd3⟩
        · have f1 : ((s[1].toNat : Int) == 35) = true := by rw [hd]; exact hd1
          have f2 : ((s[1].toNat : Int) == 36) = false := by rw [hd]; exact hd2
          have HD3 := Lib.hid hd3
          clear hd hd1 hd2 hd3
          rcases kind_cases (k : Int) with ⟨g7, g8, hg⟩ | ⟨g7, g8, hg⟩ | ⟨g7, g8, hg⟩
          · clear hg HD3
            go_wp2_with fail
            refine (HMT.out _).mono ?_
            rintro e w1 ⟨⟨kk, nm, n, x, r⟩, b, rfl, htl, hb1⟩
            have hin := htl.1
            have HTL := Lib.hid htl
            have HB1 := Lib.hid (box_mono (below_drewN HB.out _) hb1)
            have HS := Lib.hid (HI.out ⟨kk, nm, n, x, r⟩ hin)
            unfold TextEnd at HS
            obtain ⟨u, hu⟩ : ∃ u : ByteArray, (⟨(textOf ⟨kk, nm, n, x, r⟩).toArray⟩ : ByteArray) = u := ⟨_, rfl⟩
            have HU := Lib.hid (text_str hu)
            rw [hu] at HS
            have kb := Blk.new w1 38 (itC kk nm n x (r : Int))
            have HB2 := Lib.hid (HB1.out.alloc (box_size HB1.out) (.cells (itC kk nm n x (r : Int)) 38))
            have KB := Lib.hid kb
            have HLT : Hid (w.heap.size < w1.heap.size) := Lib.hid (by have := box_size HB1.out; omega)
            clear hb1 htl hin hu kb
            cases b with
            | false =>
              go_wp2_with fail
              go_roundw
              case rel => exact ⟨k + 1, by omega, by go_num, Lib.hid (by have := NoneBelow.tail (HL.out ▸ HNB.out) HTL.out (fun h => by cases h.1); rw [HL.out]; exact_mod_cast this), HB2.out⟩
              case measure => simp [intOf]; omega
            | true =>
              go_wp2_with fail
              refine (HS.out _).mono ?_
              rintro e w4 ⟨rfl, hb4⟩
              have hx4 := box_mono HB2.out hb4
              have k4 := KB.out.below hb4 (by simp)
              have r4 : Blk w4 w.heap.size 38 (itC 0 ⟨#[]⟩ 0 false 0) := res_blk hx4
              have HX4 := Lib.hid hx4
              have R4 := Lib.hid r4
              by_cases heq : u.data.toList = s.data.toList
              · have hus : (u.toList == s.toList) = true := by rw [ByteArray.toList_eq, ByteArray.toList_eq, heq]; simp
                have hne1 : w.heap.size ≠ w1.heap.size := Nat.ne_of_lt HLT.out
                have hne2 : w1.heap.size ≠ w.heap.size := Ne.symm hne1
                have hlt4 : w1.heap.size < w4.heap.size := k4.lt
                obtain ⟨c0, c1, c2, c3, c4, f0, f1', f2', f3, f4⟩ := itC_cells k4
                obtain ⟨p0, p1, p2, p3, p4, t0, t1, t2, t3, t4⟩ := itC_cells r4
                have HOK := Lib.hid (reads_yes HTL.out (HU.out.symm.trans (heq.trans (HL.out.trans rfl))))
                clear hb4 hx4 k4 r4 heq HS
                go_wp2_with fail
                have hk := putIt_blk R4.out kk nm n x (r : Int)
                have hbl := putIt_below (g := w.heap.size) (box_below HX4.out) (Nat.le_refl _) kk nm n x (r : Int)
                show bodyPost _ _ _ _ _ (putIt _ _ kk nm n x (r : Int))
                generalize putIt _ _ kk nm n x (r : Int) = W5 at hk hbl ⊢
                obtain ⟨e0, e1, e2, e3, e4, -⟩ := itC_cells hk
                clear hk
                exact bodyPost_ret (v := .tuple #[itA kk nm n x (r : Int), .bool true]) (by simp [results, Tryz.results22, e0, e1, e2, e3, e4, go_sem]) rfl (RItemEnd.of (it := ⟨kk, nm, n, x, r⟩) (HL.out ▸ HOK.out) hbl)
              · have hus : (u.toList == s.toList) = false := list_ne heq
                have HNE := Lib.hid (show textOf ⟨kk, nm, n, x, r⟩ ≠ c :: d :: l from fun e => heq (HU.out.trans (e.trans HL.out.symm)))
                clear hb4 hx4 k4 r4 heq HS
                go_wp2_with fail
                go_roundw
                case rel => exact ⟨k + 1, by omega, by go_num, Lib.hid (by have := NoneBelow.tail (HL.out ▸ HNB.out) HTL.out (fun h => HNE.out h.2); rw [HL.out]; exact_mod_cast this), HX4.out⟩
                case measure => simp [intOf]; omega

          · clear hg HD3
            go_wp2_with fail
            refine (HMT.out _).mono ?_
            rintro e w1 ⟨⟨kk, nm, n, x, r⟩, b, rfl, htl, hb1⟩
            have hin := htl.1
            have HTL := Lib.hid htl
            have HB1 := Lib.hid (box_mono (below_drewN HB.out _) hb1)
            have HS := Lib.hid (HI.out ⟨kk, nm, n, x, r⟩ hin)
            unfold TextEnd at HS
            obtain ⟨u, hu⟩ : ∃ u : ByteArray, (⟨(textOf ⟨kk, nm, n, x, r⟩).toArray⟩ : ByteArray) = u := ⟨_, rfl⟩
            have HU := Lib.hid (text_str hu)
            rw [hu] at HS
            have kb := Blk.new w1 38 (itC kk nm n x (r : Int))
            have HB2 := Lib.hid (HB1.out.alloc (box_size HB1.out) (.cells (itC kk nm n x (r : Int)) 38))
            have KB := Lib.hid kb
            have HLT : Hid (w.heap.size < w1.heap.size) := Lib.hid (by have := box_size HB1.out; omega)
            clear hb1 htl hin hu kb
            cases b with
            | false =>
              go_wp2_with fail
              go_roundw
              case rel => exact ⟨k + 1, by omega, by go_num, Lib.hid (by have := NoneBelow.tail (HL.out ▸ HNB.out) HTL.out (fun h => by cases h.1); rw [HL.out]; exact_mod_cast this), HB2.out⟩
              case measure => simp [intOf]; omega
            | true =>
              go_wp2_with fail
              refine (HS.out _).mono ?_
              rintro e w4 ⟨rfl, hb4⟩
              have hx4 := box_mono HB2.out hb4
              have k4 := KB.out.below hb4 (by simp)
              have r4 : Blk w4 w.heap.size 38 (itC 0 ⟨#[]⟩ 0 false 0) := res_blk hx4
              have HX4 := Lib.hid hx4
              have R4 := Lib.hid r4
              by_cases heq : u.data.toList = s.data.toList
              · have hus : (u.toList == s.toList) = true := by rw [ByteArray.toList_eq, ByteArray.toList_eq, heq]; simp
                have hne1 : w.heap.size ≠ w1.heap.size := Nat.ne_of_lt HLT.out
                have hne2 : w1.heap.size ≠ w.heap.size := Ne.symm hne1
                have hlt4 : w1.heap.size < w4.heap.size := k4.lt
                obtain ⟨c0, c1, c2, c3, c4, f0, f1', f2', f3, f4⟩ := itC_cells k4
                obtain ⟨p0, p1, p2, p3, p4, t0, t1, t2, t3, t4⟩ := itC_cells r4
                have HOK := Lib.hid (reads_yes HTL.out (HU.out.symm.trans (heq.trans (HL.out.trans rfl))))
                clear hb4 hx4 k4 r4 heq HS
                go_wp2_with fail
                have hk := putIt_blk R4.out kk nm n x (r : Int)
                have hbl := putIt_below (g := w.heap.size) (box_below HX4.out) (Nat.le_refl _) kk nm n x (r : Int)
                show bodyPost _ _ _ _ _ (putIt _ _ kk nm n x (r : Int))
                generalize putIt _ _ kk nm n x (r : Int) = W5 at hk hbl ⊢
                obtain ⟨e0, e1, e2, e3, e4, -⟩ := itC_cells hk
                clear hk
                exact bodyPost_ret (v := .tuple #[itA kk nm n x (r : Int), .bool true]) (by simp [results, Tryz.results22, e0, e1, e2, e3, e4, go_sem]) rfl (RItemEnd.of (it := ⟨kk, nm, n, x, r⟩) (HL.out ▸ HOK.out) hbl)
              · have hus : (u.toList == s.toList) = false := list_ne heq
                have HNE := Lib.hid (show textOf ⟨kk, nm, n, x, r⟩ ≠ c :: d :: l from fun e => heq (HU.out.trans (e.trans HL.out.symm)))
                clear hb4 hx4 k4 r4 heq HS
                go_wp2_with fail
                go_roundw
                case rel => exact ⟨k + 1, by omega, by go_num, Lib.hid (by have := NoneBelow.tail (HL.out ▸ HNB.out) HTL.out (fun h => HNE.out h.2); rw [HL.out]; exact_mod_cast this), HX4.out⟩
                case measure => simp [intOf]; omega

          · have HX := Lib.hid (fun (h : (d = 35 ∨ d = 36) ↔ ((k : Int) = 7 ∨ (k : Int) = 8)) => hg (h.1 HD3.out))
            clear hg
            go_wp2_with fail
            go_roundw
            case rel => exact ⟨k + 1, by omega, by go_num, Lib.hid (by rw [HL.out]; exact_mod_cast NoneBelow.num (HL.out ▸ HNB.out) HX.out), below_drewN HB.out _⟩
            case measure => simp [intOf]; omega

        · have f1 : ((s[1].toNat : Int) == 35) = false := by rw [hd]; exact hd1
          have f2 : ((s[1].toNat : Int) == 36) = true := by rw [hd]; exact hd2
          have HD3 := Lib.hid hd3
          clear hd hd1 hd2 hd3
          rcases kind_cases (k : Int) with ⟨g7, g8, hg⟩ | ⟨g7, g8, hg⟩ | ⟨g7, g8, hg⟩
          · clear hg HD3
            go_wp2_with fail
            refine (HMT.out _).mono ?_
            rintro e w1 ⟨⟨kk, nm, n, x, r⟩, b, rfl, htl, hb1⟩
            have hin := htl.1
            have HTL := Lib.hid htl
            have HB1 := Lib.hid (box_mono (below_drewN HB.out _) hb1)
            have HS := Lib.hid (HI.out ⟨kk, nm, n, x, r⟩ hin)
            unfold TextEnd at HS
            obtain ⟨u, hu⟩ : ∃ u : ByteArray, (⟨(textOf ⟨kk, nm, n, x, r⟩).toArray⟩ : ByteArray) = u := ⟨_, rfl⟩
            have HU := Lib.hid (text_str hu)
            rw [hu] at HS
            have kb := Blk.new w1 38 (itC kk nm n x (r : Int))
            have HB2 := Lib.hid (HB1.out.alloc (box_size HB1.out) (.cells (itC kk nm n x (r : Int)) 38))
            have KB := Lib.hid kb
            have HLT : Hid (w.heap.size < w1.heap.size) := Lib.hid (by have := box_size HB1.out; omega)
            clear hb1 htl hin hu kb
            cases b with
            | false =>
              go_wp2_with fail
              go_roundw
              case rel => exact ⟨k + 1, by omega, by go_num, Lib.hid (by have := NoneBelow.tail (HL.out ▸ HNB.out) HTL.out (fun h => by cases h.1); rw [HL.out]; exact_mod_cast this), HB2.out⟩
              case measure => simp [intOf]; omega
            | true =>
              go_wp2_with fail
              refine (HS.out _).mono ?_
              rintro e w4 ⟨rfl, hb4⟩
              have hx4 := box_mono HB2.out hb4
              have k4 := KB.out.below hb4 (by simp)
              have r4 : Blk w4 w.heap.size 38 (itC 0 ⟨#[]⟩ 0 false 0) := res_blk hx4
              have HX4 := Lib.hid hx4
              have R4 := Lib.hid r4
              by_cases heq : u.data.toList = s.data.toList
              · have hus : (u.toList == s.toList) = true := by rw [ByteArray.toList_eq, ByteArray.toList_eq, heq]; simp
                have hne1 : w.heap.size ≠ w1.heap.size := Nat.ne_of_lt HLT.out
                have hne2 : w1.heap.size ≠ w.heap.size := Ne.symm hne1
                have hlt4 : w1.heap.size < w4.heap.size := k4.lt
                obtain ⟨c0, c1, c2, c3, c4, f0, f1', f2', f3, f4⟩ := itC_cells k4
                obtain ⟨p0, p1, p2, p3, p4, t0, t1, t2, t3, t4⟩ := itC_cells r4
                have HOK := Lib.hid (reads_yes HTL.out (HU.out.symm.trans (heq.trans (HL.out.trans rfl))))
                clear hb4 hx4 k4 r4 heq HS
                go_wp2_with fail
                have hk := putIt_blk R4.out kk nm n x (r : Int)
                have hbl := putIt_below (g := w.heap.size) (box_below HX4.out) (Nat.le_refl _) kk nm n x (r : Int)
                show bodyPost _ _ _ _ _ (putIt _ _ kk nm n x (r : Int))
                generalize putIt _ _ kk nm n x (r : Int) = W5 at hk hbl ⊢
                obtain ⟨e0, e1, e2, e3, e4, -⟩ := itC_cells hk
                clear hk
                exact bodyPost_ret (v := .tuple #[itA kk nm n x (r : Int), .bool true]) (by simp [results, Tryz.results22, e0, e1, e2, e3, e4, go_sem]) rfl (RItemEnd.of (it := ⟨kk, nm, n, x, r⟩) (HL.out ▸ HOK.out) hbl)
              · have hus : (u.toList == s.toList) = false := list_ne heq
                have HNE := Lib.hid (show textOf ⟨kk, nm, n, x, r⟩ ≠ c :: d :: l from fun e => heq (HU.out.trans (e.trans HL.out.symm)))
                clear hb4 hx4 k4 r4 heq HS
                go_wp2_with fail
                go_roundw
                case rel => exact ⟨k + 1, by omega, by go_num, Lib.hid (by have := NoneBelow.tail (HL.out ▸ HNB.out) HTL.out (fun h => HNE.out h.2); rw [HL.out]; exact_mod_cast this), HX4.out⟩
                case measure => simp [intOf]; omega

          · clear hg HD3
            go_wp2_with fail
            refine (HMT.out _).mono ?_
            rintro e w1 ⟨⟨kk, nm, n, x, r⟩, b, rfl, htl, hb1⟩
            have hin := htl.1
            have HTL := Lib.hid htl
            have HB1 := Lib.hid (box_mono (below_drewN HB.out _) hb1)
            have HS := Lib.hid (HI.out ⟨kk, nm, n, x, r⟩ hin)
            unfold TextEnd at HS
            obtain ⟨u, hu⟩ : ∃ u : ByteArray, (⟨(textOf ⟨kk, nm, n, x, r⟩).toArray⟩ : ByteArray) = u := ⟨_, rfl⟩
            have HU := Lib.hid (text_str hu)
            rw [hu] at HS
            have kb := Blk.new w1 38 (itC kk nm n x (r : Int))
            have HB2 := Lib.hid (HB1.out.alloc (box_size HB1.out) (.cells (itC kk nm n x (r : Int)) 38))
            have KB := Lib.hid kb
            have HLT : Hid (w.heap.size < w1.heap.size) := Lib.hid (by have := box_size HB1.out; omega)
            clear hb1 htl hin hu kb
            cases b with
            | false =>
              go_wp2_with fail
              go_roundw
              case rel => exact ⟨k + 1, by omega, by go_num, Lib.hid (by have := NoneBelow.tail (HL.out ▸ HNB.out) HTL.out (fun h => by cases h.1); rw [HL.out]; exact_mod_cast this), HB2.out⟩
              case measure => simp [intOf]; omega
            | true =>
              go_wp2_with fail
              refine (HS.out _).mono ?_
              rintro e w4 ⟨rfl, hb4⟩
              have hx4 := box_mono HB2.out hb4
              have k4 := KB.out.below hb4 (by simp)
              have r4 : Blk w4 w.heap.size 38 (itC 0 ⟨#[]⟩ 0 false 0) := res_blk hx4
              have HX4 := Lib.hid hx4
              have R4 := Lib.hid r4
              by_cases heq : u.data.toList = s.data.toList
              · have hus : (u.toList == s.toList) = true := by rw [ByteArray.toList_eq, ByteArray.toList_eq, heq]; simp
                have hne1 : w.heap.size ≠ w1.heap.size := Nat.ne_of_lt HLT.out
                have hne2 : w1.heap.size ≠ w.heap.size := Ne.symm hne1
                have hlt4 : w1.heap.size < w4.heap.size := k4.lt
                obtain ⟨c0, c1, c2, c3, c4, f0, f1', f2', f3, f4⟩ := itC_cells k4
                obtain ⟨p0, p1, p2, p3, p4, t0, t1, t2, t3, t4⟩ := itC_cells r4
                have HOK := Lib.hid (reads_yes HTL.out (HU.out.symm.trans (heq.trans (HL.out.trans rfl))))
                clear hb4 hx4 k4 r4 heq HS
                go_wp2_with fail
                have hk := putIt_blk R4.out kk nm n x (r : Int)
                have hbl := putIt_below (g := w.heap.size) (box_below HX4.out) (Nat.le_refl _) kk nm n x (r : Int)
                show bodyPost _ _ _ _ _ (putIt _ _ kk nm n x (r : Int))
                generalize putIt _ _ kk nm n x (r : Int) = W5 at hk hbl ⊢
                obtain ⟨e0, e1, e2, e3, e4, -⟩ := itC_cells hk
                clear hk
                exact bodyPost_ret (v := .tuple #[itA kk nm n x (r : Int), .bool true]) (by simp [results, Tryz.results22, e0, e1, e2, e3, e4, go_sem]) rfl (RItemEnd.of (it := ⟨kk, nm, n, x, r⟩) (HL.out ▸ HOK.out) hbl)
              · have hus : (u.toList == s.toList) = false := list_ne heq
                have HNE := Lib.hid (show textOf ⟨kk, nm, n, x, r⟩ ≠ c :: d :: l from fun e => heq (HU.out.trans (e.trans HL.out.symm)))
                clear hb4 hx4 k4 r4 heq HS
                go_wp2_with fail
                go_roundw
                case rel => exact ⟨k + 1, by omega, by go_num, Lib.hid (by have := NoneBelow.tail (HL.out ▸ HNB.out) HTL.out (fun h => HNE.out h.2); rw [HL.out]; exact_mod_cast this), HX4.out⟩
                case measure => simp [intOf]; omega

          · have HX := Lib.hid (fun (h : (d = 35 ∨ d = 36) ↔ ((k : Int) = 7 ∨ (k : Int) = 8)) => hg (h.1 HD3.out))
            clear hg
            go_wp2_with fail
            go_roundw
            case rel => exact ⟨k + 1, by omega, by go_num, Lib.hid (by rw [HL.out]; exact_mod_cast NoneBelow.num (HL.out ▸ HNB.out) HX.out), below_drewN HB.out _⟩
            case measure => simp [intOf]; omega

        · have f1 : ((s[1].toNat : Int) == 35) = false := by rw [hd]; exact hd1
          have f2 : ((s[1].toNat : Int) == 36) = false := by rw [hd]; exact hd2
          have HD3 := Lib.hid hd3
          clear hd hd1 hd2 hd3
          rcases kind_cases (k : Int) with ⟨g7, g8, hg⟩ | ⟨g7, g8, hg⟩ | ⟨g7, g8, hg⟩
          · have HX := Lib.hid (fun (h : (d = 35 ∨ d = 36) ↔ ((k : Int) = 7 ∨ (k : Int) = 8)) => HD3.out (h.2 hg))
            clear hg
            go_wp2_with fail
            go_roundw
            case rel => exact ⟨k + 1, by omega, by go_num, Lib.hid (by rw [HL.out]; exact_mod_cast NoneBelow.num (HL.out ▸ HNB.out) HX.out), below_drewN HB.out _⟩
            case measure => simp [intOf]; omega

          · have HX := Lib.hid (fun (h : (d = 35 ∨ d = 36) ↔ ((k : Int) = 7 ∨ (k : Int) = 8)) => HD3.out (h.2 hg))
            clear hg
            go_wp2_with fail
            go_roundw
            case rel => exact ⟨k + 1, by omega, by go_num, Lib.hid (by rw [HL.out]; exact_mod_cast NoneBelow.num (HL.out ▸ HNB.out) HX.out), below_drewN HB.out _⟩
            case measure => simp [intOf]; omega

          · clear hg HD3
            go_wp2_with fail
            refine (HMT.out _).mono ?_
            rintro e w1 ⟨⟨kk, nm, n, x, r⟩, b, rfl, htl, hb1⟩
            have hin := htl.1
            have HTL := Lib.hid htl
            have HB1 := Lib.hid (box_mono (below_drewN HB.out _) hb1)
            have HS := Lib.hid (HI.out ⟨kk, nm, n, x, r⟩ hin)
            unfold TextEnd at HS
            obtain ⟨u, hu⟩ : ∃ u : ByteArray, (⟨(textOf ⟨kk, nm, n, x, r⟩).toArray⟩ : ByteArray) = u := ⟨_, rfl⟩
            have HU := Lib.hid (text_str hu)
            rw [hu] at HS
            have kb := Blk.new w1 38 (itC kk nm n x (r : Int))
            have HB2 := Lib.hid (HB1.out.alloc (box_size HB1.out) (.cells (itC kk nm n x (r : Int)) 38))
            have KB := Lib.hid kb
            have HLT : Hid (w.heap.size < w1.heap.size) := Lib.hid (by have := box_size HB1.out; omega)
            clear hb1 htl hin hu kb
            cases b with
            | false =>
              go_wp2_with fail
              go_roundw
              case rel => exact ⟨k + 1, by omega, by go_num, Lib.hid (by have := NoneBelow.tail (HL.out ▸ HNB.out) HTL.out (fun h => by cases h.1); rw [HL.out]; exact_mod_cast this), HB2.out⟩
              case measure => simp [intOf]; omega
            | true =>
              go_wp2_with fail
              refine (HS.out _).mono ?_
              rintro e w4 ⟨rfl, hb4⟩
              have hx4 := box_mono HB2.out hb4
              have k4 := KB.out.below hb4 (by simp)
              have r4 : Blk w4 w.heap.size 38 (itC 0 ⟨#[]⟩ 0 false 0) := res_blk hx4
              have HX4 := Lib.hid hx4
              have R4 := Lib.hid r4
              by_cases heq : u.data.toList = s.data.toList
              · have hus : (u.toList == s.toList) = true := by rw [ByteArray.toList_eq, ByteArray.toList_eq, heq]; simp
                have hne1 : w.heap.size ≠ w1.heap.size := Nat.ne_of_lt HLT.out
                have hne2 : w1.heap.size ≠ w.heap.size := Ne.symm hne1
                have hlt4 : w1.heap.size < w4.heap.size := k4.lt
                obtain ⟨c0, c1, c2, c3, c4, f0, f1', f2', f3, f4⟩ := itC_cells k4
                obtain ⟨p0, p1, p2, p3, p4, t0, t1, t2, t3, t4⟩ := itC_cells r4
                have HOK := Lib.hid (reads_yes HTL.out (HU.out.symm.trans (heq.trans (HL.out.trans rfl))))
                clear hb4 hx4 k4 r4 heq HS
                go_wp2_with fail
                have hk := putIt_blk R4.out kk nm n x (r : Int)
                have hbl := putIt_below (g := w.heap.size) (box_below HX4.out) (Nat.le_refl _) kk nm n x (r : Int)
                show bodyPost _ _ _ _ _ (putIt _ _ kk nm n x (r : Int))
                generalize putIt _ _ kk nm n x (r : Int) = W5 at hk hbl ⊢
                obtain ⟨e0, e1, e2, e3, e4, -⟩ := itC_cells hk
                clear hk
                exact bodyPost_ret (v := .tuple #[itA kk nm n x (r : Int), .bool true]) (by simp [results, Tryz.results22, e0, e1, e2, e3, e4, go_sem]) rfl (RItemEnd.of (it := ⟨kk, nm, n, x, r⟩) (HL.out ▸ HOK.out) hbl)
              · have hus : (u.toList == s.toList) = false := list_ne heq
                have HNE := Lib.hid (show textOf ⟨kk, nm, n, x, r⟩ ≠ c :: d :: l from fun e => heq (HU.out.trans (e.trans HL.out.symm)))
                clear hb4 hx4 k4 r4 heq HS
                go_wp2_with fail
                go_roundw
                case rel => exact ⟨k + 1, by omega, by go_num, Lib.hid (by have := NoneBelow.tail (HL.out ▸ HNB.out) HTL.out (fun h => HNE.out h.2); rw [HL.out]; exact_mod_cast this), HX4.out⟩
                case measure => simp [intOf]; omega

      · have hcm : (q.toList == m.toList) = false := by rw [hcmp]; simpa using hc
        have HC := Lib.hid hc
        clear hcmp hc
        go_wp2_with fail
        go_quiet (exact Calls.quiet_of_same ((HM.out _).mono fun e w2 ⟨h1, h2⟩ => ⟨h1, h2.symm⟩))
        go_wp2_with fail
        go_roundw
        case rel => exact ⟨k + 1, by omega, by go_num, Lib.hid (by have := NoneBelow.mark (HL.out ▸ HNB.out) HC.out; rw [HL.out]; exact_mod_cast this), below_drewN HB.out _⟩
        case measure => simp [intOf]; omega
    · have i1 : ¬ ((k : Int) ≤ 9) := by omega
      have k1 : Blk wr w.heap.size 38 (itC 0 ⟨#[]⟩ 0 false 0) := res_blk hB
      obtain ⟨d0, d1, d2, d3, d4, f0, f1, f2, f3, f4⟩ := itC_cells k1
      have HB := Lib.hid (box_below hB)
      have K1 := Lib.hid k1
      obtain rfl : k = 10 := by omega
      have HN := Lib.hid (NoneBelow.all (by exact_mod_cast HNB.out))
      clear hB k1 hk hk9
      go_wp2_with fail
      have hk := putIt_blk K1.out 0 ⟨#[]⟩ 0 false 0
      have hbl := putIt_below (g := w.heap.size) HB.out (Nat.le_refl _) 0 ⟨#[]⟩ 0 false 0
      show bodyPost _ _ _ _ _ (putIt _ _ 0 ⟨#[]⟩ 0 false 0)
      generalize putIt _ _ 0 ⟨#[]⟩ 0 false 0 = W5 at hk hbl ⊢
      obtain ⟨e0, e1, e2, e3, e4, -⟩ := itC_cells hk
      clear hk
      exact bodyPost_ret (v := .tuple #[itA 0 ⟨#[]⟩ 0 false 0, .bool false]) (by simp [results, Tryz.results22, e0, e1, e2, e3, e4, go_sem]) rfl (RItemEnd.of (it := rawIt 0) HN.out hbl)

theorem spec_readitem (s : ByteArray) (hs : s.size ≤ 1048576) (w : World) : Calls Tryz.prog 22 #[.string s] w (RItemEnd s.data.toList w) := by
  have hsl : s.data.toList.length = s.size := by simp
  by_cases h2 : s.size < 2
  · exact spec_readitem_short s h2 w
  · cases e : s.data.toList with
    | nil => rw [e] at hsl; simp at hsl; omega
    | cons c l1 =>
      cases l1 with
      | nil => rw [e] at hsl; simp at hsl; omega
      | cons d l => rw [← e]; exact spec_readitem_long s (by omega) hs c d l e w
end Go.Proofs.YtogdbfjagnbllaaGreatDoor

namespace Go.Proofs.YtogdbfjagnbllaaGreatDoor
open Go.RowKit Go

set_option maxHeartbeats 2000000 in
theorem eqitem_same (k : Int) (nm : ByteArray) (n : Int) (x : Bool) (r : Int) (w : World) : Calls Tryz.prog 23 #[itA k nm n x r, itA k nm n x r] w fun e w' => e = .returned (.bool true) ∧ Below w.heap.size w w' := by
  have b1 : (k != k) = false := by simp
  have b2 : (!nm.toList == nm.toList) = false := by simp
  have b3 : (n != n) = false := by simp
  have b5 : (r != r) = false := by simp
  cases x with
  | true =>
    go_enter Tryz.func23, Tryz.ntmps23
    go_wp2_with fail
    go_ret
    exact ⟨rfl, by go_grown⟩
  | false =>
    go_enter Tryz.func23, Tryz.ntmps23
    go_wp2_with fail
    go_ret
    exact ⟨rfl, by go_grown⟩
end Go.Proofs.YtogdbfjagnbllaaGreatDoor

namespace Go.Proofs.YtogdbfjagnbllaaGreatDoor
open Go.RowKit Go

theorem zMax : ((begin Tryz.prog (fun _ _ => 0) default).world.heap[1]?).bind Obj.row? = some ((List.replicate 1 (Value.int .i64 0)).toArray, 3) := by kernel_rfl
theorem max_of_shape {w : World} (h : w.ShapedOpen Tryz.prog) : ∃ m : Int, w.cell? ⟨1, 0, none⟩ = some (.int .i64 m) := by
  obtain ⟨m, hm, _⟩ := cells_of_shape (n := 1) h (of_decide_eq_true (by kernel_rfl)) zMax (by simp) (by kernel_rfl) (by kernel_rfl) Tryz.underlying3 0 (by decide)
  exact ⟨m, hm⟩
theorem readin_of_laid {W : World} (hsh : W.ShapedOpen Tryz.prog) (hL : laidMet Tryz.prog (tabsErr ++ []) W) : ReadIn W :=
  ⟨⟨tabs_of_shape hsh, pow_of_laid hL, deb_of_laid hL⟩, .of (errs_of_laid hL).1 (errs_of_laid hL).2, max_of_shape hsh⟩

set_option maxHeartbeats 8000000 in
theorem law_FnExactReadItem (s : ByteArray) (w : World) (hcs : ReadIn w) :
    Calls Tryz.prog 6 #[.string s] w fun e w' => e = .returned (.bool true) ∧ Below w.heap.size w w' := by
  by_cases hs : s.size ≤ 1048576
  · have HS := Lib.hid (fun W => spec_readitem s hs W)
    have HI := Lib.hid (fun W (hb : Below w.heap.size w W) => impl_readitem s hs W (hcs.below hb))
    unfold RItemEnd at HS HI
    have hz : ¬ ((1048576 : Int) < (s.size : Int)) := by omega
    clear hcs hs
    go_enter Tryz.func6, Tryz.ntmps6
    go_wp2_with fail
    refine (HS.out _).mono ?_
    rintro e w1 ⟨⟨k, nm, n, x, r⟩, b, rfl, h1, hb1⟩
    have kb := Blk.new w1 38 (itC k nm n x (r : Int))
    have HB1 := Lib.hid (hb1.alloc hb1.size (.cells (itC k nm n x (r : Int)) 38))
    have KB := Lib.hid kb
    have H1 := Lib.hid h1
    have HZ1 := Lib.hid hb1.size
    have HQ := Lib.hid (fun W => eqitem_same k nm n x (r : Int) W)
    clear hb1 kb h1
    go_wp2_with fail
    refine (HI.out _ HB1.out).mono ?_
    rintro e w3 ⟨j, b2, rfl, h2, hb3⟩
    obtain ⟨hj, hbb⟩ := H1.out.unique h2
    subst hj hbb
    have kb3 := KB.out.below hb3 (by simp)
    have hlt3 : w1.heap.size < w3.heap.size := kb3.lt
    have kb4 := kb3.alloc (.cells (itC k nm n x (r : Int)) 38)
    obtain ⟨d0, d1, d2, d3, d4, -⟩ := itC_cells kb3
    obtain ⟨q0, q1, q2, q3, q4, -⟩ := itC_cells kb4
    have HB3 := Lib.hid (HB1.out.trans (hb3.mono HB1.out.size))
    have HE := Lib.hid (HB3.out.alloc HB3.out.size (.cells (itC k nm n x (r : Int)) 38))
    clear hb3 kb3 kb4 h2
    cases b with
    | true =>
      go_wp2_with fail
      refine (HQ.out _).mono ?_
      rintro e w6 ⟨rfl, hb6⟩
      have HX6 := Lib.hid (HE.out.trans (hb6.mono HE.out.size))
      clear hb6
      go_wp2_with fail
      go_ret
      exact ⟨rfl, HX6.out⟩
    | false =>
      go_wp2_with fail
      refine (HQ.out _).mono ?_
      rintro e w6 ⟨rfl, hb6⟩
      have HX6 := Lib.hid (HE.out.trans (hb6.mono HE.out.size))
      clear hb6
      go_wp2_with fail
      go_ret
      exact ⟨rfl, HX6.out⟩
  · have hz : (1048576 : Int) < (s.size : Int) := by omega
    clear hs hcs
    go_enter Tryz.func6, Tryz.ntmps6
    go_wp2_with fail
    go_ret
    exact ⟨rfl, Below.refl _ _⟩
end Go.Proofs.YtogdbfjagnbllaaGreatDoor

namespace Go.Proofs.YtogdbfjagnbllaaGreatDoor
open Go.RowKit Go

theorem text_small {it : It} (hin : ItIn it) : (textOf it).length ≤ 64 := by
  by_cases hc : cellsOf it = []
  · rw [text_no hc]; decide
  · rw [text_yes hc]
    simp only [List.length_cons]
    have n1 := hin.n1
    have n2 := hin.n2
    have h1 : (Lib.itoa it.n).length ≤ 11 := itoa_len (by omega) (by omega)
    rcases form_of hc with ⟨h0, _⟩ | ⟨h0, _⟩ | ⟨h0, _, _, e⟩ | ⟨h0, _, _, _, e⟩
    · rw [tail_raw h0]; have := hex_len8 hin.r; omega
    · rw [tail_num h0]
      split
      · have := hex_len8 (lowN_lt it.n); simp only [List.length_cons]; omega
      · simp only [List.length_cons]; omega
    · rw [tail_var h0]
      have h2 := nameL_size e
      have h3 : it.name.data.toList.length = it.name.size := by simp
      simp only [List.length_append, List.length_cons, h3]
      omega
    · rw [tail_word h0]
      have h2 := nameL_size e
      have h3 : it.name.data.toList.length = it.name.size := by simp
      omega

set_option maxRecDepth 100000 in
set_option maxHeartbeats 8000000 in
theorem law_FnItem (A : Option Addr) (len cap : Nat) (w : World) (hcode : CodeOk w w.heap.size A len) (hcs : ReadIn w) : Calls Tryz.prog 5 #[.slice A len cap] w fun e w' => e = .returned (.bool true) ∧ Below w.heap.size w w' := by
  by_cases hbig : 1048576 < (len : Int)
  · have HB := Lib.hid (big_any A len cap w)
    rw [decide_eq_true hbig] at HB
    clear hbig hcode hcs
    go_enter Tryz.func5, Tryz.ntmps5
    go_wp2_with fail
    refine HB.out.mono ?_
    rintro e w' ⟨rfl, rfl⟩
    go_wp2_with fail
    go_ret
    exact ⟨rfl, Below.refl _ _⟩
  have HB := Lib.hid (big_any A len cap w)
  rw [decide_eq_false hbig] at HB
  have HD := Lib.hid (drawtext_any A len cap w hcode)
  have HCS := Lib.hid hcs
  clear hbig hcode hcs
  go_enter Tryz.func5, Tryz.ntmps5
  go_wp2_with fail
  refine HB.out.mono ?_
  rintro e w' ⟨rfl, rfl⟩
  go_wp2_with fail
  refine HD.out.mono ?_
  rintro e w1 ⟨it, rfl, hin, hsz, hb1⟩
  have HT := Lib.hid (fun W (hb : Below w.heap.size w W) => impl_itemtext it hin W (HCS.out.below hb).text)
  unfold TextEnd at HT
  obtain ⟨u, hu⟩ : ∃ u : ByteArray, (⟨(textOf it).toArray⟩ : ByteArray) = u := ⟨_, rfl⟩
  have hut := text_str hu
  have hus : u.size ≤ 1048576 := by
    have h1 := text_small hin
    have h2 : u.data.toList.length = u.size := by simp
    rw [hut] at h2
    omega
  rw [hu] at HT
  have HR := Lib.hid (fun W (hb : Below w.heap.size w W) => impl_readitem u hus W (HCS.out.below hb))
  unfold RItemEnd at HR
  rw [hut] at HR
  have HO := Lib.hid (fun W => spec_itemok it hin W)
  by_cases hc : cellsOf it = []
  · rw [show decide (cellsOf it ≠ []) = false from decide_eq_false (fun h => h hc)] at HO
    have H0 : Hid (ReadsItem (textOf it) (rawIt 0) false) := Lib.hid (by rw [text_no hc]; exact reads_empty)
    have hemp : u.toList.isEmpty = true := by rw [ByteArray.toList_eq, hut, text_no hc]; rfl
    obtain ⟨k, nm, n, x, r⟩ := it
    have kb := Blk.new w1 38 (itC k nm n x (r : Int))
    have HB1 := Lib.hid (hb1.alloc hb1.size (.cells (itC k nm n x (r : Int)) 38))
    have KB := Lib.hid kb
    clear hb1 kb hin hsz hu hut hus hc HD HB
    go_wp2_with fail
    refine (HT.out _ HB1.out).mono ?_
    rintro e w3 ⟨rfl, hb3⟩
    have HB3 := Lib.hid (HB1.out.trans (hb3.mono HB1.out.size))
    have KB3 := Lib.hid (KB.out.below hb3 (by simp))
    clear hb3
    go_wp2_with fail
    refine (HR.out _ HB3.out).mono ?_
    rintro e w4 ⟨j, b2, rfl, h2, hb4⟩
    obtain ⟨hj, hbb⟩ := H0.out.unique h2
    subst hj hbb
    have kb4 := KB3.out.below hb4 KB3.out.lt
    have HB4 := Lib.hid (HB3.out.trans (hb4.mono HB3.out.size))
    have hlt4 : w1.heap.size < w4.heap.size := kb4.lt
    have kb5 := kb4.alloc (.cells (itC 0 noText 0 false ((0 : Nat) : Int)) 38)
    obtain ⟨c0, c1, c2, c3, c4, -⟩ := itC_cells kb4
    obtain ⟨d0, d1, d2, d3, d4, -⟩ := itC_cells kb5
    have KB5 := Lib.hid kb5
    have HB5 := Lib.hid (HB4.out.alloc HB4.out.size (.cells (itC 0 noText 0 false ((0 : Nat) : Int)) 38))
    clear hb4 kb4 kb5 h2
    go_wp2_with fail
    refine (HO.out _).mono ?_
    rintro e w6 ⟨rfl, hb6⟩
    have kb6 := KB5.out.below hb6 KB5.out.lt
    obtain ⟨p0, p1, p2, p3, p4, -⟩ := itC_cells kb6
    have HB6 := Lib.hid (HB5.out.trans (hb6.mono HB5.out.size))
    clear hb6 c0 c1 c2 c3 c4 d0 d1 d2 d3 d4
    go_wp2_with fail
    refine (HT.out _ HB6.out).mono ?_
    rintro e w7 ⟨rfl, hb7⟩
    have HB7 := Lib.hid (HB6.out.trans (hb7.mono HB6.out.size))
    clear hb7
    go_wp2_with fail
    go_ret
    exact ⟨rfl, HB7.out⟩
  · rw [show decide (cellsOf it ≠ []) = true from decide_eq_true hc] at HO
    have H0 : Hid (ReadsItem (textOf it) it true) := Lib.hid (.inl ⟨rfl, hc, hin, rfl⟩)
    have HEQ : ∀ W, (binOp .eql 38 (itVal it) (itVal it)).run Tryz.prog W = .ok (.bool true) W := fun W => by rw [item_eql]; simp
    obtain ⟨k, nm, n, x, r⟩ := it
    have kb := Blk.new w1 38 (itC k nm n x (r : Int))
    have HB1 := Lib.hid (hb1.alloc hb1.size (.cells (itC k nm n x (r : Int)) 38))
    have KB := Lib.hid kb
    clear hb1 kb hin hsz hu hut hus hc HD HB
    go_wp2_with fail
    refine (HT.out _ HB1.out).mono ?_
    rintro e w3 ⟨rfl, hb3⟩
    have HB3 := Lib.hid (HB1.out.trans (hb3.mono HB1.out.size))
    have KB3 := Lib.hid (KB.out.below hb3 (by simp))
    clear hb3
    go_wp2_with fail
    refine (HR.out _ HB3.out).mono ?_
    rintro e w4 ⟨j, b2, rfl, h2, hb4⟩
    obtain ⟨hj, hbb⟩ := H0.out.unique h2
    subst hj hbb
    have kb4 := KB3.out.below hb4 KB3.out.lt
    have HB4 := Lib.hid (HB3.out.trans (hb4.mono HB3.out.size))
    have hlt4 : w1.heap.size < w4.heap.size := kb4.lt
    have kb5 := kb4.alloc (.cells (itC k nm n x (r : Int)) 38)
    have kn5 := Blk.new w4 38 (itC k nm n x (r : Int))
    obtain ⟨c0, c1, c2, c3, c4, -⟩ := itC_cells kb4
    obtain ⟨d0, d1, d2, d3, d4, -⟩ := itC_cells kb5
    have KB5 := Lib.hid kb5
    have KN5 := Lib.hid kn5
    have HB5 := Lib.hid (HB4.out.alloc HB4.out.size (.cells (itC k nm n x (r : Int)) 38))
    clear hb4 kb4 kb5 kn5 h2
    go_wp2_with fail
    refine (HO.out _).mono ?_
    rintro e w6 ⟨rfl, hb6⟩
    have kb6 := KB5.out.below hb6 KB5.out.lt
    have kn6 := KN5.out.below hb6 KN5.out.lt
    obtain ⟨p0, p1, p2, p3, p4, -⟩ := itC_cells kb6
    obtain ⟨q0, q1, q2, q3, q4, -⟩ := itC_cells kn6
    have HB6 := Lib.hid (HB5.out.trans (hb6.mono HB5.out.size))
    clear hb6 c0 c1 c2 c3 c4 d0 d1 d2 d3 d4 kb6 kn6
    go_wp2_with fail
    go_ret
    exact ⟨rfl, HB6.out⟩
end Go.Proofs.YtogdbfjagnbllaaGreatDoor

namespace Go.Proofs.YtogdbfjagnbllaaGreatDoor
open Go.ChangeShapes Go.WideShapes Go.ChangeAt Go.ChangeMaps Go.RowKit Go

theorem handed_laid_shaped {H : Type} {enc : TypeId × Value → H} {a : Assume} {C : Checked} {os : Os} {f : FuncId} {fn : Func} {s : ChangeSpec} {conds : List PathCond} {apart fresh handsOn again : Bool} {X : World → Array Value → Prop}
    (hX : ∀ (w w' : World) (args : Array Value), w.heap = w'.heap → X w args → X w' args)
    (own : ownKnob C.prog.godebug = none) (started : os.Started) (noInit : C.prog.inits.idxOf? f = none) (hfn : C.prog.funcs[f]? = some fn)
    (witness : ∃ (w : World) (tape : Tape) (i : Input), w.os = os ∧ (w.forCall tape i).Shaped C.prog ∧ i.vars = [] ∧ Input.okWide C.prog (w.forCall tape i) .any w.heap.size f i ∧
      ((s.pre enc C.prog fn conds apart (w.forCall tape i).memory i.args ∧ X (w.forCall tape i).memory i.args) ∧ sizedMet enc C.prog fn (OpenSpec.ofChange s) apart (w.forCall tape i).memory i.args) ∧ a.holds C.prog (lone (Frame.enter C.prog f i.args .normal) [] (w.forCall tape i)))
    (contract : ∀ (W : World) (base : Nat) (args : Array Value) (ds gs : List (DataW H)) (before : List MemPlace),
      (∀ (j : Nat) t v, fn.params[j]? = some t → args[j]? = some v → Value.okWide C.prog W .any base t v) →
      DataW.Whole enc C.prog fn.params.toList s.vars apart W args.toList ds gs before →
      X W args → W.ShapedOpen C.prog →
      Calls C.prog f args W fun e W' => ∃ v, e = .returned v ∧ s.post enc C.prog fn apart fresh handsOn again W args v W') :
    ReturnsInHanded a C os f .any (fun w args => (s.pre enc C.prog fn conds apart w args ∧ X w args) ∧ sizedMet enc C.prog fn (OpenSpec.ofChange s) apart w args) (s.post enc C.prog fn apart fresh handsOn again) := by
  refine returnsInHanded_of_calls own started noInit witness ?_
  intro w tape i _ hsh _ hok hpre _
  obtain ⟨_, _, _, fn', hfn', _, _, _, _, hval⟩ := hok
  have e : fn' = fn := Option.some.inj (hfn'.symm.trans hfn)
  subst e
  obtain ⟨⟨⟨ds, gs, before, hw, hc⟩, hx⟩, hz⟩ := hpre
  have hw' := DataW.Whole.of_heap (w' := w.forCall tape i) (by rfl) hw
  refine (contract (w.forCall tape i) w.heap.size i.args ds gs before hval hw' (hX _ _ _ (by rfl) hx) hsh).mono fun e W' ⟨v, he, hp⟩ => ?_
  subst he
  exact ChangeSpec.post_blind hp
end Go.Proofs.YtogdbfjagnbllaaGreatDoor
