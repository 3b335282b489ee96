/-
  impl.BodyText.
-/
import Derived.Test.YtlkkobffgbjkpaaGreatDoorBodyV
import Derived.Test.YtlkkobffgbjkpaaGreatDoorDefsI
import Derived.Test.YtlkkobffgbjkpaaGreatDoorOpTextI
import Derived.Test.YtlkkobffgbjkpaaGreatDoorIn
import Derived.Test.YtlkkobffgbjkpaaGreatDoorI64
import Derived.Test.YtlkkobffgbjkpaaGreatDoorAppend
import Derived.Test.YtlkkobffgbjkpaaGreatDoorShelf
import Derived.Handy
import Derived.IntWalk
namespace Go.Proofs.YtlkkobffgbjkpaaGreatDoor
open Go.RowKit Go

theorem infoStr : (Tryz.prog.info? 9).map (fun i => (i.zero, i.size, i.bytes)) = some (some (.string ⟨#[]⟩), 1, 16) := by kernel_rfl
/-- The texts of a body's ops, as strings. -/
def opBs (ds : List Df) (xs : List (Int × Int)) : List ByteArray := xs.map fun o => opTx o ds
theorem opBs_len (ds : List Df) (xs : List (Int × Int)) : (opBs ds xs).length = xs.length := by simp [opBs]
theorem opBs_get {ds : List Df} {xs : List (Int × Int)} {i : Nat} (h : i < xs.length) : (opBs ds xs)[i]? = some (opTx xs[i] ds) := by simp [opBs, h]
theorem lens_le {c : Nat} {xs : List (List UInt8)} (h : ∀ x ∈ xs, x.length ≤ c) : Lib.lens xs ≤ xs.length * c := by
  induction xs with
  | nil => simp [Lib.lens]
  | cons x r ih =>
    have h1 := ih (fun y hy => h y (List.mem_cons_of_mem _ hy))
    have h2 := h x (List.mem_cons_self ..)
    simp only [Lib.lens, List.map_cons, List.sum_cons, List.length_cons] at h1 ⊢
    rw [Nat.add_mul]
    omega
theorem body_join (ds : List Df) (nm : ByteArray) (xs : List (Int × Int)) : Lib.join ((nm :: opBs ds xs).map (·.data.toList)) [32] = bodyL ds (nm, xs) := by
  unfold bodyL opBs opTxs
  rw [List.map_cons, List.map_map]
  rfl
theorem join_fits {ds : List Df} {nm : ByteArray} {xs : List (Int × Int)} (hsm : SmD ds) (hnm : nm.size ≤ 1048576) (hx : xs.length ≤ 60) (hrg : ∀ o ∈ xs, -2147483648 ≤ o.2 ∧ o.2 ≤ 2147483647) : (Lib.join ((nm :: opBs ds xs).map (·.data.toList)) [32]).length ≤ 140737488355328 := by
  have hb : ∀ x ∈ (nm :: opBs ds xs).map (·.data.toList), x.length ≤ 1048576 := fun x hx => by
    obtain ⟨b, hb, rfl⟩ := List.mem_map.1 hx
    rcases List.mem_cons.1 hb with rfl | hb
    · exact hnm
    · obtain ⟨o, ho, rfl⟩ := List.mem_map.1 hb
      exact opTx_size hsm (hrg o ho).1 (hrg o ho).2
  have hl := lens_le hb
  rw [List.map_cons] at hl ⊢
  rw [Lib.join_length]
  simp only [List.length_map, List.length_cons, opBs_len, List.length_nil] at hl ⊢
  omega
theorem row_stay {w w' : World} {base size : Nat} {e : TypeId} {v : Value} {n : Nat} {xs : List Value} (h : w.ownsRow base e size v n xs) (hb : Below w.heap.size w w') : w'.ownsRow base e size v n xs :=
  h.kept (row := none) (only_of_below hb none) (by cases v.ownBlock <;> simp)
theorem row_one (w : World) (base : Nat) (e : TypeId) (x : Value) (hb : base ≤ w.heap.size) : (w.alloc (.cells #[x] e)).ownsRow base e 1 (.slice (some ⟨w.heap.size, 0, none⟩) 1 1) 1 [x] :=
  ⟨rfl, .inr ⟨w.heap.size, 1, #[x], rfl, hb, heap_alloc_new w _, Nat.le_refl _, by decide, rfl, rfl⟩⟩

set_option maxRecDepth 100000 in
set_option maxHeartbeats 4000000 in
theorem impl_body (ds : List Df) (hsm : SmD ds) (k : Int) (hk0 : -9223372036854775808 ≤ k) (hk1 : k ≤ 9223372036854775807) (v : Value) (w : World) (hr : RdD w v ds) (hp : Lib.TabIs Tryz.prog w "internal/strconv.uint64pow10" .u64 Lib.pow10Tab) (hg : Signs w) : Calls Tryz.prog 24 #[v, .int .i64 k] w fun e w' => e = .returned (.string (bodyTx ds k)) ∧ Below w.heap.size w w' := by
  have HD := Lib.hid (impl_defs ds hsm v w hr)
  obtain ⟨A, cap, rfl⟩ := hr.form
  have hN := hsm.1
  have HR := Lib.hid (fun W (h : Below w.heap.size w W) => hr.below h)
  have HPW := Lib.hid (fun W (h : Below w.heap.size w W) => tab_below hp h)
  have HSG := Lib.hid (fun W (h : Below w.heap.size w W) => hg.below h)
  have HSM := Lib.hid hsm
  clear hp hg
  by_cases hin : 0 ≤ k ∧ k < (ds.length : Int)
  · cases hok : okDefs ds with
    | false =>
      rw [hok] at HD
      have hb : bodyTx ds k = ⟨#[]⟩ := by unfold bodyTx; rw [if_neg (by rw [hok]; simp)]
      rw [hb]
      obtain ⟨N, hNe⟩ : ∃ N, ds.length = N := ⟨_, rfl⟩
      rw [hNe] at hN HD hin ⊢
      have i1 : ¬ k < 0 := by omega
      have i2 : ¬ (N : Int) ≤ k := by omega
      clear hr hsm HR HSM hNe hok hb HPW HSG hin
      go_enter Tryz.func24, Tryz.ntmps24
      go_wp2_with fail
      refine HD.out.mono ?_
      rintro e w2 ⟨rfl, hb2⟩
      have HB2 := Lib.hid hb2
      clear hb2 HD
      go_wp2_with fail
      go_ret
      exact ⟨rfl, HB2.out⟩
    | true =>
      rw [hok] at HD
      have hlen := okDefs_len hok
      obtain ⟨q, rfl⟩ : ∃ q : Nat, k = (q : Int) := ⟨k.toNat, by omega⟩
      have hq : q < ds.length := by omega
      have hb : bodyTx ds (q : Int) = ⟨(bodyL ds ds[q]).toArray⟩ := by
        unfold bodyTx
        rw [if_pos ⟨hok, hin⟩]
        simp [List.getD, List.getElem?_eq_getElem hq]
      rw [hb]
      have HI := Lib.hid (fun W h => (HR.out W h).item hq)
      have h60 := hlen.2 _ (List.getElem_mem hq)
      obtain ⟨hnm, hxl, hrg⟩ := hsm.2 _ (List.getElem_mem hq)
      obtain ⟨d, hd⟩ : ∃ d, ds[q] = d := ⟨_, rfl⟩
      rw [hd] at HI h60 hnm hxl hrg ⊢
      obtain ⟨nm, xs⟩ := d
      simp only at HI h60 hnm hxl hrg
      have HT := Lib.hid (fun o (ho : o ∈ xs) u W (h : RdD W u ds) (h2 : Below w.heap.size w W) => impl_optext o.1 o.2 ds (hrg o ho).1 (hrg o ho).2 hsm u W h (HPW.out W h2) (HSG.out W h2))
      have HJF := Lib.hid (join_fits hsm hnm h60 hrg)
      rw [← body_join]
      have HTG := Lib.hid (fun i (h : i < xs.length) => opBs_get (ds := ds) h)
      have HTL := Lib.hid (opBs_len ds xs)
      obtain ⟨T, hT⟩ : ∃ T, opBs ds xs = T := ⟨_, rfl⟩
      rw [hT] at HJF HTG HTL ⊢
      have HCL := Lib.hid (fun W => clone_any nm hnm W)
      obtain ⟨N, hNe⟩ : ∃ N, ds.length = N := ⟨_, rfl⟩
      have i1 : (0 : Int) ≤ (q : Int) := by omega
      have i2 : (q : Int) < (N : Int) := by omega
      have i3 : ¬ (N : Int) ≤ (q : Int) := by omega
      have i4 : ¬ (q : Int) < 0 := by omega
      rw [hNe] at hN HD HR ⊢
      obtain ⟨i0, hi0, hz0, hz1, hz2⟩ := info_parts infoStr
      clear hr hsm HSM hNe hok hlen hin hb hd hxl hrg hT hq HPW HSG hk0 hk1
      go_enter Tryz.func24, Tryz.ntmps24
      go_wp2_with fail
      refine HD.out.mono ?_
      rintro e w2 ⟨rfl, hb2⟩
      have HB2 := Lib.hid hb2
      clear hb2 HD
      obtain ⟨a, B, m, bc, rfl, la, c00, c1, r0, em⟩ := HI.out _ (Below.refl w.heap.size w)
      have hm : m ≤ 60 := by omega
      have HEM := Lib.hid em
      have LA : Hid ((a.add (q * 2)).block < w.heap.size) := Lib.hid (by rw [addr_addb]; exact la)
      have C1 := Lib.hid (fun W (h : Below w.heap.size w W) => (h.cell (p := ⟨(a.add (q * 2)).block, (a.add (q * 2)).off + 1, none⟩) LA.out).trans c1)
      have RX := Lib.hid (fun W (h : Below w.heap.size w W) => r0.below h)
      have c0 : w2.cell? (a.add (q * 2)) = some (.string nm) := (HB2.out.cell LA.out).trans c00
      clear la em r0 HI c1 c00
      go_wp2_with fail
      refine (HCL.out _).mono ?_
      rintro e w3 ⟨rfl, hb3⟩
      have HB3 := Lib.hid (hb3)
      have HW3 := Lib.hid (HB2.out.trans (hb3.mono HB2.out.size))
      have c1 : (w3.alloc (.cells #[.string nm] 9)).cell? ⟨(a.add (q * 2)).block, (a.add (q * 2)).off + 1, none⟩ = some (.slice B m bc) := C1.out _ (HW3.out.alloc HW3.out.size _)
      have HW4 := Lib.hid (HW3.out.alloc HW3.out.size (.cells #[.string nm] 9))
      have RW := Lib.hid (row_one w3 w.heap.size 9 (.string nm) HW3.out.size)
      clear hb3 HB3 HCL c0 C1
      go_wp2_with fail
      go_loopw [5, 34] (fun vo vi wr => ∃ (i : Nat), vi = .int .i64 i ∧ i ≤ m ∧ wr.ownsRow w.heap.size 9 1 vo (i + 1) ((nm :: T.take i).map Value.string) ∧ Hid (Below w.heap.size w wr)) (fun _ vi _ => m - (intOf vi).toNat)
      case atStart => exact ⟨0, rfl, by omega, RW.out, HW4⟩
      case round =>
        obtain ⟨i, rfl, hi, ho, HB⟩ := hrel
        clear c1 HW4 RW
        by_cases hp : i < m
        · have hp' : i < xs.length := by have := HEM.out; omega
          obtain ⟨b, rfl, lb, o0, o1⟩ := (RX.out _ HB.out).item hp'
          have HC := Lib.hid (fun W h => HT.out xs[i] (List.getElem_mem hp') _ W (HR.out W h) h)
          have htg := HTG.out i hp'
          obtain ⟨x, hx⟩ : ∃ x, xs[i] = x := ⟨_, rfl⟩
          rw [hx] at o0 o1 HC htg
          obtain ⟨kk, z⟩ := x
          obtain ⟨t, ht⟩ : ∃ t, opTx (kk, z) ds = t := ⟨_, rfl⟩
          rw [ht] at HC htg
          simp only at o0 o1 HC
          have HTK : Hid ((nm :: T.take (i + 1)).map Value.string = (nm :: T.take i).map Value.string ++ [.string t]) := Lib.hid (by rw [List.take_add_one, htg]; simp)
          have HO := Lib.hid ho
          have HBX := Lib.hid (HB.out.alloc HB.out.size (.cells #[.int .i64 kk, .int .i32 z] 90))
          have k1 : (0 : Int) ≤ (i : Int) := by omega
          have k2 : (i : Int) < (m : Int) := by omega
          clear hx ht htg hp' lb ho
          go_wp2_with fail
          refine (HC.out _ HBX.out).mono ?_
          rintro e w4 ⟨rfl, hb4⟩
          have HB4 := Lib.hid (HBX.out.trans (hb4.mono HBX.out.size))
          have HO4 := Lib.hid (row_stay (HO.out.alloc (.cells #[.int .i64 kk, .int .i32 z] 90)) hb4)
          clear hb4 HB HC o0 o1 HO HBX
          go_wp2_with (at_builtin; refine wpList_append_own _ rfl _ _ 42 rfl w.heap.size 9 i0 (.string ⟨#[]⟩) 1 16 Tryz.underlying42 hi0 hz0 hz1 hz2 rfl (by decide) _ _ _ rfl (HO4.out.alloc _) ⟨w4.heap.size, 0, none⟩ 1 1 [.string t] rfl rfl (cell_one_new _ _ _) (by simp [Value.oneCell']) (by unfold maxLen; omega) (by omega) (by have := HB4.out.size; simp; omega) ?_; intro v9 w9 hown9 hgr9 hif; clear hif)
          have HB9 : Hid (Below w.heap.size w w9) := Lib.hid ((HB4.out.alloc HB4.out.size _).grown hgr9 (by have := HB4.out.size; simp; omega) (fun k hk => (World.ownsRow.lt HO4.out k hk).1))
          have HR9 := Lib.hid hown9
          clear hown9 hgr9
          go_roundw
          case rel => exact ⟨i + 1, by go_num, by omega, by rw [HTK.out]; exact HR9.out, HB9⟩
          case measure => simp [intOf]; omega
        · obtain rfl : i = m := by omega
          have hxs : (nm :: T).length = i + 1 := by rw [List.length_cons, HTL.out, HEM.out]
          have e0 : (nm :: T.take i) = nm :: T := by rw [List.take_of_length_le (by rw [HTL.out]; have := HEM.out; omega)]
          rw [e0] at ho
          obtain ⟨D, gc, rfl⟩ := own_formS ho
          obtain ⟨g, rfl, hgc⟩ : ∃ g, D = some ⟨g, 0, none⟩ ∧ i + 1 ≤ gc := by
            rcases ho.2 with ⟨-, h0⟩ | ⟨g, cp, cur, e, hb, hg, hnc, -⟩
            · omega
            · injection e with e1 e2 e3
              exact ⟨g, e1, by omega⟩
          have HJ := Lib.hid (Tryz.strings_Join g 0 gc (nm :: T) ⟨#[32]⟩ wr (fun j x hx => by
            have hj : j < i + 1 := by rw [← hxs]; exact (List.getElem?_eq_some_iff.1 hx).1
            rw [Nat.zero_add, ho.cellAt j (by omega), List.getElem?_map, hx]
            rfl) (World.ownsRow.lt ho g (by simp [Value.ownBlock])).2 (by rw [hxs]; omega) (by rw [hxs]; exact hgc) HJF.out)
          rw [hxs] at HJ
          clear ho hxs e0 hgc
          go_wp2_with fail
          refine HJ.out.mono ?_
          rintro e w4 ⟨rfl, hb4⟩
          have HB4 := Lib.hid (HB.out.trans (hb4.mono HB.out.size))
          clear hb4 HB HJ
          go_wp2_with fail
          go_ret
          exact ⟨rfl, HB4.out⟩
  · have hb : bodyTx ds k = ⟨#[]⟩ := by unfold bodyTx; rw [if_neg (fun h => hin h.2)]
    rw [hb]
    obtain ⟨N, hNe⟩ : ∃ N, ds.length = N := ⟨_, rfl⟩
    rw [hNe] at hN HD hin ⊢
    clear hr hsm HR HSM hNe hb HPW HSG
    by_cases h0 : k < 0
    · clear hin HD
      go_enter Tryz.func24, Tryz.ntmps24
      go_wp2_with fail
      go_ret
      exact ⟨rfl, by go_grown⟩
    · have h1 : (N : Int) ≤ k := by omega
      clear hin HD
      go_enter Tryz.func24, Tryz.ntmps24
      go_wp2_with fail
      go_ret
      exact ⟨rfl, by go_grown⟩
end Go.Proofs.YtlkkobffgbjkpaaGreatDoor
