/-
  impl.fillField packs as many first letters as fit; PackOne, of the program and of its model, tells the first field of a name.
-/
import Derived.Test.YtaagaimafhadeaaDoorPackOne
namespace Go.Proofs.YtaagaimafhadeaaDoor
open Go.RowKit Go

set_option maxHeartbeats 1000000 in
theorem impl_fill (v : Value) (l : List UInt8) (w : World) (hv : RdB w v l) (hcs : Codes w) :
    Calls Tryd.prog 34 #[v] w fun e w' => e = .returned (.tuple #[.int .u32 ((fillN 28 l).1 : Int), .int .i64 ((fillN 28 l).2 : Int)]) ∧ w = w' := by
  obtain ⟨A, cap, rfl, hlc, hl62, hcell⟩ := hv
  have HC := Lib.hid hcell
  obtain ⟨p, q, hpq⟩ : ∃ p q, fillN 28 l = (p, q) := ⟨_, _, rfl⟩
  rw [hpq]
  have HD : Hid (∀ F free n, Fill l F free n → n = l.length → p = F ∧ q = n) := Lib.hid fun F free n h e => by
    rw [h.done e] at hpq; injection hpq with e1 e2; exact ⟨e1.symm, e2.symm⟩
  have HF : Hid (∀ F free n (h : Fill l F free n) (hn : n < l.length), free < wB l[n] → p = F ∧ q = n) := Lib.hid fun F free n h hn e => by
    rw [h.full hn e] at hpq; injection hpq with e1 e2; exact ⟨e1.symm, e2.symm⟩
  have HCS := Lib.hid hcs
  clear hpq hcell hcs hlc
  go_enter Tryd.func34, Tryd.ntmps34
  go_wp2
  go_loop [4, 5, 12] (fun vf vl vn => ∃ F free n : Nat, vf = .int .u32 F ∧ vl = .int .i64 free ∧ vn = .int .i64 n ∧ Hid (Fill l F free n)) (fun _ _ vn => l.length - (intOf vn).toNat)
  case atStart => exact ⟨0, 28, 0, rfl, rfl, rfl, Lib.hid (Fill.start l)⟩
  case round =>
    obtain ⟨F, free, n, rfl, rfl, rfl, HR⟩ := hrel
    have hn := HR.out.nle
    have h28 := HR.out.le
    have hlt := HR.out.lt
    by_cases hp : n < l.length
    · obtain ⟨a, rfl, -, hc⟩ := HC.out n hp
      have hck := u8_le l[n]
      have hw := wB_le l[n]
      have HL : Hid (∀ W, Calls Tryd.prog 47 #[.int .u8 (l[n].toNat : Int)] W fun e w' => e = .returned (.int .i64 (letOf l[n])) ∧ W = w') := Lib.hid fun W => impl_letterof l[n] W
      have HW : Hid (∀ W, Calls Tryd.prog 48 #[.int .i64 (letOf l[n])] W fun e w' => e = .returned (.int .i64 (wB l[n] : Int)) ∧ W = w') := Lib.hid fun W => by rw [wB_int]; exact impl_widthof _ W
      have HB : Hid (Calls Tryd.prog 49 #[.int .i64 (letOf l[n])] w fun e w' => e = .returned (.int .u32 (bB l[n] : Int)) ∧ w = w') := Lib.hid (by rw [bB_int]; exact impl_bitsof _ w HCS.out)
      have hbl := bB_le l[n]
      have hFull := HF.out F free n HR.out hp
      have hMore := HR.out.more hp
      have hOr := fun h : wB l[n] ≤ free => or_fit HR.out.lt HR.out.mod (bB_lt l[n]) h HR.out.le
      have HLr := letOf_range l[n]
      obtain ⟨z, hz⟩ : ∃ z, letOf l[n] = z := ⟨_, rfl⟩
      obtain ⟨d, hd⟩ : ∃ d, wB l[n] = d := ⟨_, rfl⟩
      obtain ⟨b, hb⟩ : ∃ b, bB l[n] = b := ⟨_, rfl⟩
      rw [hz] at HL HW HB HLr
      rw [hd] at HW hFull hMore hOr hw
      rw [hb] at HB hMore hOr hbl
      have HFULL := Lib.hid hFull
      have HMORE := Lib.hid hMore
      have HOR := Lib.hid hOr
      clear hz hd hb hFull hMore hOr
      by_cases hfit : d ≤ free
      · have hA := HOR.out hfit
        obtain ⟨F2, hF2⟩ : ∃ F2, F + b * 2 ^ (free - d) = F2 := ⟨_, rfl⟩
        have HM := HMORE.out hfit
        rw [hF2] at hA HM
        have HM := Lib.hid HM
        have hnn : (0 : Int) ≤ (free : Int) - (d : Int) := by omega
        clear hF2
        go_wp2_with fail
        refine (HL.out _).mono ?_
        rintro e w' ⟨rfl, rfl⟩
        go_wp2_with fail
        refine (HW.out _).mono ?_
        rintro e w' ⟨rfl, rfl⟩
        go_wp2_with fail
        refine HB.out.mono ?_
        rintro e w' ⟨rfl, rfl⟩
        go_wp2_with fail
        go_round
        case rel => exact ⟨F2, free - d, n + 1, by first | go_num | (simpa using hA), by go_num, by go_num, HM⟩
        case measure => simp [intOf]; omega
      · have hgt : free < d := by omega
        have HQ := Lib.hid (HFULL.out (by omega))
        clear hfit
        go_wp2_with fail
        refine (HL.out _).mono ?_
        rintro e w' ⟨rfl, rfl⟩
        go_wp2_with fail
        refine (HW.out _).mono ?_
        rintro e w' ⟨rfl, rfl⟩
        go_wp2_with fail
        obtain ⟨rfl, rfl⟩ := HQ.out
        go_ret2
        exact ⟨rfl, rfl⟩
    · have HQ := Lib.hid (HD.out F free n HR.out (by omega))
      obtain rfl : n = l.length := by omega
      go_wp2_with fail
      obtain ⟨rfl, rfl⟩ := HQ.out
      go_ret2
      exact ⟨rfl, rfl⟩

theorem grown_nil_le (s : ByteArray) : s.data.toList.length = s.size := rfl
/-- The bytes of a text, laid anew. -/
theorem rdb_bytes (w : World) (e : TypeId) (s : ByteArray) (hs : s.size ≤ 4611686018427387904) (fr : Nat × Nat) : RdB (w.drew.alloc (.cells (bytesRow s (grownCap w s.size 0 e)) e fr)) (.slice (some ⟨w.heap.size, 0, none⟩) s.size (grownCap w s.size 0 e)) s.data.toList := by
  refine ⟨_, _, rfl, grownCap_ge _ _ _ _, hs, fun i hi => ⟨_, rfl, by simp, ?_⟩⟩
  rw [addr_lit, Nat.zero_add]
  have h1 := World.cell?_alloc_mark w.drew (bytesRow s (grownCap w s.size 0 e)) e fr i
  have h2 : w.drew.heap.size = w.heap.size := rfl
  rw [h2] at h1
  rw [h1, bytesRow_at s _ i hi]
  rfl
set_option maxHeartbeats 1000000 in
theorem impl_packone (s : ByteArray) (hs : s.size ≤ 4611686018427387904) (w : World) (hcs : Codes w) :
    Calls Tryd.prog 21 #[.string s] w fun e w' => e = .returned (.tuple #[.int .u32 ((pack1 s.data.toList).1 : Int), .int .i64 ((pack1 s.data.toList).2 : Int)]) ∧ Below w.heap.size w w' := by
  have HN := Lib.hid (impl_nameok s hs w)
  rw [nameOk_list] at HN
  cases hn : nameL s.data.toList with
  | false =>
    rw [hn] at HN
    rw [pack1_no hn]
    clear hn hcs
    go_enter Tryd.func21, Tryd.ntmps21
    go_wp2_with fail
    refine HN.out.mono ?_
    rintro e w' ⟨rfl, rfl⟩
    go_wp2_with fail
    go_ret2
    exact ⟨rfl, Below.refl _ _⟩
  | true =>
    rw [hn] at HN
    rw [pack1_yes hn]
    have hconv := run_bytes_of_string (P := Tryd.prog) w 9 22 5 s Tryd.underlying9 Tryd.underlying22 Tryd.underlying5
    have hr := rdb_bytes w 5 s hs ((bytesRow s (grownCap w s.size 0 5)).size, (bytesRow s (grownCap w s.size 0 5)).size + 1)
    have hb1 : Below w.heap.size w (w.drew.alloc (.cells (bytesRow s (grownCap w s.size 0 5)) 5 ((bytesRow s (grownCap w s.size 0 5)).size, (bytesRow s (grownCap w s.size 0 5)).size + 1))) := (below_drewN (Below.refl _ _) 1).alloc (Nat.le_refl _) _
    obtain ⟨W1, hW1⟩ : ∃ W1, w.drew.alloc (.cells (bytesRow s (grownCap w s.size 0 5)) 5 ((bytesRow s (grownCap w s.size 0 5)).size, (bytesRow s (grownCap w s.size 0 5)).size + 1)) = W1 := ⟨_, rfl⟩
    rw [hW1] at hconv hr hb1
    obtain ⟨cap, hcap⟩ : ∃ cap, grownCap w s.size 0 5 = cap := ⟨_, rfl⟩
    rw [hcap] at hconv hr
    have HF := Lib.hid (impl_fill _ _ W1 hr (hcs.below hb1))
    have HB := Lib.hid hb1
    obtain ⟨p, q, hpq⟩ : ∃ p q, fillN 28 s.data.toList = (p, q) := ⟨_, _, rfl⟩
    rw [hpq] at HF
    rw [hpq]
    clear hn hcs hr hb1 hW1 hcap hpq
    go_enter Tryd.func21, Tryd.ntmps21
    go_wp2_with fail
    refine HN.out.mono ?_
    rintro e w' ⟨rfl, rfl⟩
    go_wp2_with fail
    refine HF.out.mono ?_
    rintro e w' ⟨rfl, rfl⟩
    go_wp2_with fail
    go_ret2
    exact ⟨rfl, HB.out⟩
set_option maxHeartbeats 1000000 in
theorem spec_packone (s : ByteArray) (hs : s.size ≤ 4611686018427387904) (w : World) :
    Calls Tryd.prog 23 #[.string s] w fun e w' => e = .returned (.tuple #[.int .u32 ((pack1 s.data.toList).1 : Int), .int .i64 ((pack1 s.data.toList).2 : Int)]) ∧ w = w' := by
  have HN := Lib.hid (spec_nameok s hs w)
  rw [nameOk_list] at HN
  have HF := Lib.hid (spec_l03one s hs w)
  cases hn : nameL s.data.toList with
  | false =>
    rw [hn] at HN
    rw [pack1_no hn]
    clear hn
    go_enter Tryd.func23, Tryd.ntmps23
    go_wp2_with fail
    refine HN.out.mono ?_
    rintro e w' ⟨rfl, rfl⟩
    go_wp2_with fail
    go_ret2
    exact ⟨rfl, rfl⟩
  | true =>
    rw [hn] at HN
    rw [pack1_yes hn]
    obtain ⟨p, q, hpq⟩ : ∃ p q, fillN 28 s.data.toList = (p, q) := ⟨_, _, rfl⟩
    rw [hpq] at HF
    rw [hpq]
    clear hn hpq
    go_enter Tryd.func23, Tryd.ntmps23
    go_wp2_with fail
    refine HN.out.mono ?_
    rintro e w' ⟨rfl, rfl⟩
    go_wp2_with fail
    refine HF.out.mono ?_
    rintro e w' ⟨rfl, rfl⟩
    go_wp2_with fail
    go_ret2
    exact ⟨rfl, rfl⟩

set_option maxHeartbeats 1000000 in
theorem law_packone (s : ByteArray) (w : World) (hcs : Codes w) : Calls Tryd.prog 5 #[.string s] w fun e w' => e = .returned (.bool true) ∧ Below w.heap.size w w' := by
  by_cases hs : s.size ≤ 1048576
  · have i1 : (s.size : Int) ≤ 1048576 := by omega
    have HS := Lib.hid (spec_packone s (by omega) w)
    have HI := Lib.hid (impl_packone s (by omega) w hcs)
    obtain ⟨p, q, hpq⟩ : ∃ p q, pack1 s.data.toList = (p, q) := ⟨_, _, rfl⟩
    rw [hpq] at HS HI
    clear hpq hcs
    go_enter Tryd.func5, Tryd.ntmps5
    go_wp2_with fail
    refine HS.out.mono ?_
    rintro e w' ⟨rfl, rfl⟩
    go_wp2_with fail
    refine HI.out.mono ?_
    rintro e w' ⟨rfl, hb⟩
    have HB := Lib.hid hb
    clear hb
    go_wp2_with fail
    go_ret
    exact ⟨rfl, HB.out⟩
  · have i1 : (1048576 : Int) < (s.size : Int) := by omega
    go_enter Tryd.func5, Tryd.ntmps5
    go_wp2_with fail
    go_ret
    exact ⟨rfl, Below.refl _ _⟩
end Go.Proofs.YtaagaimafhadeaaDoor
