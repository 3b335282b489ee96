/-
  impl.Listing.
-/
import Derived.Test.YthihfgjolioabaaDoorInsTextI
import Derived.Test.YthihfgjolioabaaDoorCodeOkI
import Derived.Test.YthihfgjolioabaaDoorInsW
import Derived.Test.YthihfgjolioabaaDoorAppend
import Derived.Test.YthihfgjolioabaaDoorShelf
import Derived.Lib.Join
import Derived.Handy
import Derived.IntWalk
import Derived.Deep.RegionHeld3
namespace Go.Proofs.YthihfgjolioabaaDoor
open Go.RowKit Go

theorem infoStrL : (Tryd.prog.info? 9).map (fun i => (i.zero, i.size, i.bytes)) = some (some (.string ⟨#[]⟩), 1, 16) := by kernel_rfl
/-- The lines of a listing, as strings. -/
def lineB (xs : List (Int × Int)) : List ByteArray := (linesL 0 xs).map fun x => ⟨x.toArray⟩
theorem lineB_len (xs : List (Int × Int)) : (lineB xs).length = xs.length := by simp [lineB, linesL_len]
theorem lineB_get {xs : List (Int × Int)} {i : Nat} (h : i < xs.length) : (lineB xs)[i]? = some ⟨(lineL i xs[i]).toArray⟩ := by
  unfold lineB
  rw [List.getElem?_map, linesL_get h]
  simp
theorem lineB_data (xs : List (Int × Int)) : (lineB xs).map (·.data.toList) = linesL 0 xs := by
  unfold lineB
  rw [List.map_map]
  exact List.map_id'' (fun _ => rfl) _
theorem joinTail_none (L : List (List UInt8)) : Lib.joinTail [] L = L.flatten := by
  simp [Lib.joinTail]
theorem join_none (L : List (List UInt8)) : Lib.join L [] = L.flatten := by
  cases L with
  | nil => rfl
  | cons x r => rw [Lib.join_cons, joinTail_none]; rfl
theorem line_cat (i : Nat) (o : Int × Int) : ((((⟨(Lib.itoa (i : Int)).toArray⟩ : ByteArray) ++ ⟨#[32]⟩) ++ insTx o) ++ ⟨#[10]⟩) = ⟨(lineL i o).toArray⟩ := by
  have key : ∀ a b : ByteArray, a.data.toList = b.data.toList → a = b := fun a b h => by
    cases a; cases b
    simp only [ByteArray.mk.injEq]
    exact Array.toList_inj.1 h
  apply key
  simp [lineL]
theorem line_size {i : Nat} {o : Int × Int} (hi : i ≤ 1500) (h0 : -9223372036854775808 ≤ o.2) (h1 : o.2 ≤ 9223372036854775807) : (lineL i o).length ≤ 63 := by
  have h2 := Lib.itoa_length_le (i : Int) (by omega) (by omega)
  have h3 := insTx_size h0 h1
  have h4 : (insTx o).data.toList.length ≤ 40 := by simpa using h3
  unfold lineL
  simp only [List.length_append, List.length_cons, List.length_nil]
  omega
theorem lens_leL {c : Nat} {xs : List (List UInt8)} (h : ∀ x ∈ xs, x.length ≤ c) : xs.flatten.length ≤ xs.length * c := by
  induction xs with
  | nil => simp
  | cons x r ih =>
    have h1 := ih (fun y hy => h y (List.mem_cons_of_mem _ hy))
    have h2 := h x (List.mem_cons_self ..)
    simp only [List.flatten_cons, List.length_append, List.length_cons, Nat.add_mul]
    omega
theorem linesL_fit : ∀ (xs : List (Int × Int)) (a : Nat), RngC xs → a + xs.length ≤ 1500 → ∀ x ∈ linesL a xs, x.length ≤ 63
  | [], a, _, _ => by intro x hx; simp [linesL] at hx
  | o :: r, a, h, hl => by
    intro x hx
    simp only [List.length_cons] at hl
    rcases List.mem_cons.1 hx with rfl | hx
    · have := (h o (List.mem_cons_self ..)).2
      exact line_size (by omega) this.1 this.2
    · exact linesL_fit r (a + 1) (fun p hp => h p (List.mem_cons_of_mem _ hp)) (by omega) x hx
theorem row_stayL {w w' : World} {base size : Nat} {e : TypeId} {v : Value} {n : Nat} {xs : List Value} (h : w.ownsRow base e size v n xs) (hb : Below w.heap.size w w') : w'.ownsRow base e size v n xs :=
  h.kept (row := none) (only_of_below hb none) (by cases v.ownBlock <;> simp)
theorem own_posL {w : World} {base size : Nat} {e : TypeId} {v : Value} {n : Nat} {xs : List Value} (h : w.ownsRow base e size v n xs) (hn : 0 < n) : ∃ q cap, v = .slice (some ⟨q, 0, none⟩) n cap ∧ n ≤ cap ∧ q < w.heap.size ∧ base ≤ q := by
  rcases h.2 with ⟨rfl, h0⟩ | ⟨g, cap, cur, rfl, hb, hg, hc, -⟩
  · omega
  · exact ⟨g, cap, rfl, hc, (Array.getElem?_eq_some_iff.1 hg).1, hb⟩
theorem row_nil (w : World) (base : Nat) (e : TypeId) : w.ownsRow base e 1 (.slice none 0 0) 0 [] := World.ownsRow_nil _ _ _ _

set_option maxRecDepth 100000 in
set_option maxHeartbeats 8000000 in
theorem impl_listing (xs : List (Int × Int)) (hrg : RngC xs) (v : Value) (w : World) (hr : RdIc w v xs) (hp : Lib.TabIs Tryd.prog w "internal/strconv.uint64pow10" .u64 Lib.pow10Tab) (hg : InsW w) : Calls Tryd.prog 11 #[v] w fun e w' => e = .returned (.string (listTx xs)) ∧ Below w.heap.size w w' := by
  have HC := Lib.hid (impl_codeok xs hrg v w hr)
  have HR := Lib.hid (fun W (h : Below w.heap.size w W) => hr.below h)
  obtain ⟨A, cap, rfl⟩ := hr.form
  have HPW := Lib.hid (fun W (h : Below w.heap.size w W) => tab_below hp h)
  have HSG := Lib.hid (fun W (h : Below w.heap.size w W) => hg.below h)
  clear hp hg
  cases hok : codeOk xs with
  | false =>
    rw [hok] at HC
    have ht : listTx xs = ⟨#[]⟩ := by unfold listTx; rw [if_neg (by rw [hok]; simp)]
    rw [ht]
    obtain ⟨N, hN⟩ : ∃ N, xs.length = N := ⟨_, rfl⟩
    rw [hN] at HC ⊢
    clear hr hrg hok ht HR hN
    go_enter Tryd.func11, Tryd.ntmps11
    go_wp2_with fail
    refine HC.out.mono ?_
    rintro e w2 ⟨rfl, hb2⟩
    have HB2 := Lib.hid hb2
    clear hb2
    go_wp2_with fail
    go_ret
    exact ⟨rfl, HB2.out⟩
  | true =>
    rw [hok] at HC
    obtain ⟨hlen, -, -⟩ := codeOk_parts hok
    have ht : listTx xs = ⟨(linesL 0 xs).flatten.toArray⟩ := by unfold listTx; rw [if_pos hok]
    rw [ht, ← join_none, ← lineB_data]
    have HJF : Hid ((Lib.join ((lineB xs).map (·.data.toList)) []).length ≤ 140737488355328) := Lib.hid (by
      rw [join_none, lineB_data]
      have h1 := lens_leL (linesL_fit xs 0 hrg (by omega))
      rw [linesL_len] at h1
      omega)
    have HTG := Lib.hid (fun i (h : i < xs.length) => lineB_get h)
    have HTL := Lib.hid (lineB_len xs)
    have HDEC := Lib.hid (fun (i : Nat) (hi : i ≤ 1500) W (h : Below w.heap.size w W) => impl_dectext (i : Int) (by omega) (by omega) W (HPW.out W h))
    have HDSZ := Lib.hid (fun (i : Nat) (hi : i ≤ 1500) => dec_size (n := (i : Int)) (by omega) (by omega))
    have HIT := Lib.hid (fun k n (h0 : -9223372036854775808 ≤ n) (h1 : n ≤ 9223372036854775807) W (h : Below w.heap.size w W) => impl_instext k n h0 h1 W (HPW.out W h) (HSG.out W h))
    have HRG := Lib.hid hrg
    obtain ⟨T, hT⟩ : ∃ T, lineB xs = T := ⟨_, rfl⟩
    rw [hT] at HJF HTG HTL ⊢
    obtain ⟨N, hN⟩ : ∃ N, xs.length = N := ⟨_, rfl⟩
    have HN := Lib.hid hN
    rw [hN] at HC HTL hlen ⊢
    obtain ⟨i0, hi0, hz0, hz1, hz2⟩ := info_parts infoStrL
    obtain ⟨hl1, hl2⟩ := hlen
    clear hr hrg hok ht hN hT HPW HSG
    go_enter Tryd.func11, Tryd.ntmps11
    go_wp2_with fail
    refine HC.out.mono ?_
    rintro e w2 ⟨rfl, hb2⟩
    have HB2 := Lib.hid hb2
    clear hb2 HC
    go_wp2_with fail
    go_loopw [3, 11] (fun vo vi wr => ∃ (i : Nat), vi = .int .i64 i ∧ i ≤ N ∧ wr.ownsRow w.heap.size 9 1 vo i ((T.take i).map Value.string) ∧ Hid (Below w.heap.size w wr)) (fun _ vi _ => N - (intOf vi).toNat)
    case atStart => exact ⟨0, rfl, by omega, row_nil _ _ _, HB2⟩
    case round =>
      obtain ⟨i, rfl, hi, ho, HB⟩ := hrel
      clear HB2
      by_cases hp : i < N
      · have hp' : i < xs.length := by rw [HN.out]; exact hp
        obtain ⟨a, rfl, la, p0, p1⟩ := (HR.out wr HB.out).item hp'
        have htg := HTG.out i hp'
        have hrng := HRG.out _ (List.getElem_mem hp')
        obtain ⟨x, hx⟩ : ∃ x, xs[i] = x := ⟨_, rfl⟩
        rw [hx] at p0 p1 htg hrng
        obtain ⟨k, n⟩ := x
        simp only at p0 p1 hrng
        have HD := Lib.hid (HDEC.out i (by omega))
        have hds := HDSZ.out i (by omega)
        have HI := Lib.hid (HIT.out k n hrng.2.1 hrng.2.2)
        have hts := insTx_size (o := (k, n)) hrng.2.1 hrng.2.2
        have hcat := line_cat i (k, n)
        obtain ⟨d, hd⟩ : ∃ d : ByteArray, ⟨(Lib.itoa (i : Int)).toArray⟩ = d := ⟨_, rfl⟩
        obtain ⟨t, ht⟩ : ∃ t, insTx (k, n) = t := ⟨_, rfl⟩
        obtain ⟨ln, hln⟩ : ∃ ln : ByteArray, ⟨(lineL i (k, n)).toArray⟩ = ln := ⟨_, rfl⟩
        rw [hd] at HD hds hcat
        rw [ht] at HI hts hcat
        rw [hln] at hcat htg
        have HCAT := Lib.hid hcat
        have c1 : ¬ 9223372036854775807 < d.size + 1 := by omega
        have c2 : ¬ 9223372036854775807 < d.size + 1 + t.size := by omega
        have c3 : ¬ 9223372036854775807 < d.size + 1 + t.size + 1 := by omega
        have HTK : Hid ((T.take (i + 1)).map Value.string = (T.take i).map Value.string ++ [.string ln]) := Lib.hid (by rw [List.take_add_one, htg]; simp)
        have HO := Lib.hid ho
        have HB0 := Lib.hid (HB.out.alloc HB.out.size (.cells #[.int .i64 k, .int .i64 n] 25)).drew
        have KXB := Lib.hid (fun W (h : Below (wr.alloc (.cells #[.int .i64 k, .int .i64 n] 25)).heap.size (wr.alloc (.cells #[.int .i64 k, .int .i64 n] 25)).drew W) => ((Blk.new wr 25 #[.int .i64 k, .int .i64 n]).drew.below h (Blk.new wr 25 #[.int .i64 k, .int .i64 n]).lt))
        have KX := Lib.hid (fun W (h : Below (wr.alloc (.cells #[.int .i64 k, .int .i64 n] 25)).heap.size (wr.alloc (.cells #[.int .i64 k, .int .i64 n] 25)).drew W) => (show W.cell? ⟨wr.heap.size, 0, none⟩ = some (.int .i64 k) ∧ W.cell? ⟨wr.heap.size, 1, none⟩ = some (.int .i64 n) from by
          have hk := ((Blk.new wr 25 #[.int .i64 k, .int .i64 n]).drew.below h (Blk.new wr 25 #[.int .i64 k, .int .i64 n]).lt)
          exact ⟨hk.cell 0, hk.cell 1⟩))
        have i1 : (0 : Int) ≤ (i : Int) := by omega
        have i2 : (i : Int) < (N : Int) := by omega
        have HONE : Hid (∀ u ∈ [Value.string (d ++ ⟨#[32]⟩ ++ t ++ ⟨#[10]⟩)], u.oneCell' = true) := Lib.hid (by simp [Value.oneCell'])
        have HM1 : Hid (i + 1 ≤ maxLen) := Lib.hid (by unfold maxLen; omega)
        have HM2 : Hid ((i + 1) * 16 ≤ 140737488355328) := Lib.hid (by omega)
        have KC0 := Lib.hid (KX.out _ (Below.refl _ _))
        clear hx htg hrng hcat hd ht hln hp' la ho HTG hds hts
        go_wp2_with fail
        go_region_held3 (fun w' => w'.cell? ⟨wr.heap.size, 0, none⟩ = some (.int .i64 k) ∧ w'.cell? ⟨wr.heap.size, 1, none⟩ = some (.int .i64 n)) (first | exact KC0.out | exact KX.out _ hb4 | exact KX.out _ hb5 | exact KX.out _ hb6 | exact hcA)
          (first
            | (go_at_call 17; refine (HD.out _ HB0.out).mono ?_; rintro e w4 ⟨rfl, hb4⟩)
            | (go_at_call 7; refine (HI.out _ (HB0.out.trans (hb4.mono HB0.out.size))).mono ?_; rintro e w5 ⟨rfl, hb5x⟩; have hb5 := hb4.trans (hb5x.mono hb4.size); have hb6 := hb5.alloc hb5.size (.cells #[.string (d ++ ⟨#[32]⟩ ++ t ++ ⟨#[10]⟩)] 9); have hro := (row_stayL ((HO.out.alloc (.cells #[.int .i64 k, .int .i64 n] 25)).drew) hb5).alloc (.cells #[.string (d ++ ⟨#[32]⟩ ++ t ++ ⟨#[10]⟩)] 9); have hnw := cell_one_new w5 (.string (d ++ ⟨#[32]⟩ ++ t ++ ⟨#[10]⟩)) 9; have hsz := (HB0.out.trans (hb6.mono HB0.out.size)).size)
            | (refine wp_append_own _ (.tmp 16) (.tmp 24) 37 rfl w.heap.size 9 i0 (.string ⟨#[]⟩) 1 16 Tryd.underlying37 hi0 hz0 hz1 hz2 rfl (by decide) _ i _ rfl hro _ 1 1 _ rfl rfl hnw HONE.out HM1.out HM2.out hsz ?_; intro v9 w9 ho9 hg9 hif; clear hif; have hcA : w9.cell? ⟨wr.heap.size, 0, none⟩ = some (.int .i64 k) ∧ w9.cell? ⟨wr.heap.size, 1, none⟩ = some (.int .i64 n) := (by have hk := (KXB.out _ hb6).grown hg9 (fun e => by have := (World.ownsRow.lt HO.out _ e.symm).2; omega); exact ⟨hk.cell 0, hk.cell 1⟩)))
        have HB9 : Hid (Below w.heap.size w w9) := Lib.hid ((HB0.out.trans (hb6.mono HB0.out.size)).grown hg9 hsz (fun q hq => (World.ownsRow.lt HO.out q hq).1))
        have HR9 : Hid (w9.ownsRow w.heap.size 9 1 v9 (i + 1) ((T.take (i + 1)).map Value.string)) := Lib.hid (by
          rw [HTK.out, ← HCAT.out]
          exact ho9)
        clear ho9 hg9 hcA hnw hro hb6 hb5 hb5x hb4 hsz HO HB HCAT HTK KX KXB KC0 HB0 p0 p1
        go_wp2_with fail
        go_roundw
        case rel => exact ⟨i + 1, by go_num, by omega, HR9.out, HB9⟩
        case measure => simp [intOf]; omega
      · obtain rfl : i = N := by omega
        have e0 : T.take i = T := List.take_of_length_le (by rw [HTL.out]; omega)
        rw [e0] at ho
        obtain ⟨q, gc, rfl, hgc, hq, -⟩ := own_posL ho hl1
        have HJ := Lib.hid (Tryd.strings_Join q 0 gc T ⟨#[]⟩ wr (fun j x hx => by
          have hj : j < i := by rw [← HTL.out]; exact (List.getElem?_eq_some_iff.1 hx).1
          rw [Nat.zero_add, ho.cellAt j (by omega), List.getElem?_map, hx]
          rfl) hq (by rw [HTL.out]; omega) (by rw [HTL.out]; exact hgc) HJF.out)
        rw [HTL.out] at HJ
        clear ho e0 hgc hq
        go_wp2_with fail
        refine HJ.out.mono ?_
        rintro e w4 ⟨rfl, hb4⟩
        have HB4 := Lib.hid (HB.out.trans (hb4.mono HB.out.size))
        clear hb4 HB HJ
        go_wp2_with fail
        go_ret
        exact ⟨rfl, HB4.out⟩
end Go.Proofs.YthihfgjolioabaaDoor
