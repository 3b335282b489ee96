/-
  spec.Listing.
-/
import Derived.Test.YthihfgjolioabaaDoorInsTextS
import Derived.Test.YthihfgjolioabaaDoorCodeOkS
import Derived.Test.YthihfgjolioabaaDoorListI
import Derived.Test.YthihfgjolioabaaDoorU8
import Derived.Lib.AppendStr
import Derived.Handy
import Derived.IntWalk
import Derived.Deep.RegionHeld3
namespace Go.Proofs.YthihfgjolioabaaDoor
open Go.RowKit Go

theorem wp_append_str {P : Program} {o : Oper} {a : Act} {w : World} {K : Act → World → Prop} {Q : Exit → Act → World → Prop} (sl x : Operand) (t u : TypeId)
    (ho : o.op = .call { callee := .builtin .append, args := #[sl, x], argTypes := #[t, u] })
    (base : Nat) (e : TypeId) (i : TypeInfo) (ht : P.underlying t = some (.slice e)) (hu : P.underlying u = some .string) (hi : P.info? e = some i) (hz : i.zero = some (.int .u8 0))
    (hsize : i.size = 1) (hby : i.bytes = 1)
    (v : Value) (n : Nat) (xs : List Value) (hs : a.eval sl = v) (hown : w.ownsRow base e 1 v n xs) (s : ByteArray) (hx : a.eval x = .string s)
    (h63 : n + s.size ≤ maxLen) (hbytes : n + s.size ≤ 140737488355328) (hbase : base ≤ w.heap.size)
    (h : ∀ v' w', w'.ownsRow base e 1 v' (n + s.size) (xs ++ Lib.strCells s) → w.grownBy w' v.ownBlock → K (a.put o.dst v') w') : o.wp P a w K Q := by
  obtain ⟨v', w', hr, h2, h3, h4⟩ := Lib.run_append_own_string (P := P) w base t u o.type e i ht hu hi hz hsize hby v n xs hown s h63 hbytes hbase
  unfold Oper.wp execOp
  simp only [ho, resolve, invoke, builtin, Sem.run_bind, Sem.run_pure, Result.andThen_ok, List.map_toArray, List.map_cons, List.map_nil, hs, hx, hr]
  exact h v' w' h2 h3
theorem infoB8 : (Tryd.prog.info? 5).map (fun i => (i.zero, i.size, i.bytes)) = some (some (.int .u8 0), 1, 1) := by kernel_rfl
theorem own_emptyB (w : World) : (w.alloc (.cells #[] 5)).ownsRow w.heap.size 5 1 (.slice (some ⟨w.heap.size, 0, none⟩) 0 0) 0 [] :=
  ⟨rfl, .inr ⟨w.heap.size, 0, #[], rfl, Nat.le_refl _, heap_alloc_new w _, Nat.le_refl _, Nat.zero_le _, rfl, rfl⟩⟩
/-- The bytes of the first lines. -/
def headL (xs : List (Int × Int)) (i : Nat) : List UInt8 := (linesL 0 (xs.take i)).flatten
theorem headL_succ {xs : List (Int × Int)} {i : Nat} (h : i < xs.length) : headL xs (i + 1) = headL xs i ++ lineL i xs[i] := by
  unfold headL
  rw [linesL_take h, List.flatten_append]
  simp
theorem headL_le {xs : List (Int × Int)} (hrg : RngC xs) (hl : xs.length ≤ 1500) (i : Nat) : (headL xs i).length ≤ 94500 := by
  unfold headL
  have h1 := lens_leL (linesL_fit (xs.take i) 0 (fun o ho => hrg o (List.mem_of_mem_take ho)) (by rw [List.length_take]; omega))
  rw [linesL_len, List.length_take] at h1
  omega
theorem bytes_str {l : List UInt8} : Lib.strCells ⟨l.toArray⟩ = l.map fun b => Value.int .u8 (b.toNat : Int) := by
  simp [Lib.strCells]
set_option maxRecDepth 100000 in
set_option maxHeartbeats 8000000 in
theorem spec_listing (xs : List (Int × Int)) (hrg : RngC xs) (v : Value) (w : World) (hr : RdIc w v xs) : Calls Tryd.prog 9 #[v] w fun e w' => e = .returned (.string (listTx xs)) ∧ Below w.heap.size w w' := by
  have HC := Lib.hid (spec_codeok xs hrg v w hr)
  have HR := Lib.hid (fun W (h : Below w.heap.size w W) => hr.below h)
  obtain ⟨A, cap, rfl⟩ := hr.form
  cases hok : codeOk xs with
  | false =>
    rw [hok] at HC
    have ht : listTx xs = ⟨#[]⟩ := by unfold listTx; rw [if_neg (by rw [hok]; simp)]
    rw [ht]
    obtain ⟨N, hN⟩ : ∃ N, xs.length = N := ⟨_, rfl⟩
    rw [hN] at HC ⊢
    clear hr hrg hok ht HR hN
    go_enter Tryd.func9, Tryd.ntmps9
    go_wp2_with fail
    refine HC.out.mono ?_
    rintro e w2 ⟨rfl, hb2⟩
    have HB2 := Lib.hid hb2
    clear hb2
    go_wp2_with fail
    go_ret
    exact ⟨rfl, HB2.out⟩
  | true =>
    rw [hok] at HC
    obtain ⟨hlen, -, -⟩ := codeOk_parts hok
    have ht : listTx xs = ⟨(headL xs xs.length).toArray⟩ := by unfold listTx headL; rw [if_pos hok, List.take_length]
    rw [ht]
    have HDEC := Lib.hid (fun (i : Nat) (hi : i ≤ 1500) W => spec_dectext (i : Int) (by omega) (by omega) W)
    have HDSZ := Lib.hid (fun (i : Nat) (hi : i ≤ 1500) => dec_size (n := (i : Int)) (by omega) (by omega))
    have HIT := Lib.hid (fun k n (h0 : -9223372036854775808 ≤ n) (h1 : n ≤ 9223372036854775807) W => spec_instext k n h0 h1 W)
    have HRG := Lib.hid hrg
    have HHL := Lib.hid (fun i => headL_le hrg hlen.2 i)
    have HHS := Lib.hid (fun i (h : i < xs.length) => headL_succ h)
    obtain ⟨N, hN⟩ : ∃ N, xs.length = N := ⟨_, rfl⟩
    have HN := Lib.hid hN
    rw [hN] at HC hlen ⊢
    obtain ⟨i0, hi0, hz0, hz1, hz2⟩ := info_parts infoB8
    obtain ⟨hl1, hl2⟩ := hlen
    clear hr hrg hok ht hN
    go_enter Tryd.func9, Tryd.ntmps9
    go_wp2_with fail
    refine HC.out.mono ?_
    rintro e w2 ⟨rfl, hb2⟩
    have HB2 := Lib.hid (hb2.alloc hb2.size (.cells #[] 5))
    have RW2 := Lib.hid ((own_emptyB w2).mono hb2.size)
    clear hb2 HC
    go_wp2_with fail
    go_loopw [3, 4] (fun vo vi wr => ∃ (i : Nat), vi = .int .i64 i ∧ i ≤ N ∧ wr.ownsRow w.heap.size 5 1 vo (headL xs i).length ((headL xs i).map fun b => Value.int .u8 (b.toNat : Int)) ∧ Hid (Below w.heap.size w wr)) (fun _ vi _ => N - (intOf vi).toNat)
    case atStart => exact ⟨0, rfl, by omega, by simpa [headL, linesL] using RW2.out, HB2⟩
    case round =>
      obtain ⟨i, rfl, hi, ho, HB⟩ := hrel
      clear HB2 RW2
      by_cases hp : i < N
      · have hp' : i < xs.length := by rw [HN.out]; exact hp
        obtain ⟨a, rfl, la, p0, p1⟩ := (HR.out wr HB.out).item hp'
        have hrng := HRG.out _ (List.getElem_mem hp')
        have hhs := HHS.out i hp'
        have hh1 := HHL.out i
        have hh2 := HHL.out (i + 1)
        obtain ⟨x, hx⟩ : ∃ x, xs[i] = x := ⟨_, rfl⟩
        rw [hx] at p0 p1 hrng hhs
        obtain ⟨k, n⟩ := x
        simp only at p0 p1 hrng
        have HD := Lib.hid (HDEC.out i (by omega))
        have hds := HDSZ.out i (by omega)
        have HI := Lib.hid (HIT.out k n hrng.2.1 hrng.2.2)
        have hts := insTx_size (o := (k, n)) hrng.2.1 hrng.2.2
        have hcat := line_cat i (k, n)
        obtain ⟨d, hd⟩ : ∃ d : ByteArray, ⟨(Lib.itoa (i : Int)).toArray⟩ = d := ⟨_, rfl⟩
        obtain ⟨t, ht⟩ : ∃ t, insTx (k, n) = t := ⟨_, rfl⟩
        rw [hd] at HD hds hcat
        rw [ht] at HI hts hcat
        have hsz9 : (d ++ ⟨#[32]⟩ ++ t ++ ⟨#[10]⟩ : ByteArray).size = (lineL i (k, n)).length := by rw [hcat]; show (lineL i (k, n)).toArray.size = _; simp
        have hcells : Lib.strCells (d ++ ⟨#[32]⟩ ++ t ++ ⟨#[10]⟩) = (lineL i (k, n)).map fun b => Value.int .u8 (b.toNat : Int) := by rw [hcat, bytes_str]
        have c1 : ¬ 9223372036854775807 < d.size + 1 := by omega
        have c2 : ¬ 9223372036854775807 < d.size + 1 + t.size := by omega
        have c3 : ¬ 9223372036854775807 < d.size + 1 + t.size + 1 := by omega
        have HLN : Hid ((headL xs i).length + (d ++ ⟨#[32]⟩ ++ t ++ ⟨#[10]⟩ : ByteArray).size = (headL xs (i + 1)).length ∧ ((headL xs i).map fun b => Value.int .u8 (b.toNat : Int)) ++ Lib.strCells (d ++ ⟨#[32]⟩ ++ t ++ ⟨#[10]⟩) = (headL xs (i + 1)).map fun b => Value.int .u8 (b.toNat : Int)) := Lib.hid (by
          rw [hhs, hsz9, hcells, List.length_append, List.map_append]
          exact ⟨rfl, rfl⟩)
        have HM1 : Hid ((headL xs i).length + (d ++ ⟨#[32]⟩ ++ t ++ ⟨#[10]⟩ : ByteArray).size ≤ maxLen) := Lib.hid (by rw [HLN.out.1]; unfold maxLen; omega)
        have HM2 : Hid ((headL xs i).length + (d ++ ⟨#[32]⟩ ++ t ++ ⟨#[10]⟩ : ByteArray).size ≤ 140737488355328) := Lib.hid (by rw [HLN.out.1]; omega)
        have HO := Lib.hid ho
        have LA : Hid ((a.add (i * 2)).block < wr.heap.size) := Lib.hid (by rw [addr_addb]; exact la)
        have LW : Hid ((a.add (i * 2)).block < w.heap.size) := Lib.hid (by
          obtain ⟨a2, e2, l2, -⟩ := (HR.out w (Below.refl _ _)).item hp'
          injection e2 with e2
          subst e2
          rw [addr_addb]; exact l2)
        have KX := Lib.hid (fun W (h : Below wr.heap.size wr W) => (show W.cell? (a.add (i * 2)) = some (.int .i64 k) ∧ W.cell? ⟨(a.add (i * 2)).block, (a.add (i * 2)).off + 1, none⟩ = some (.int .i64 n) from ⟨(h.cell LA.out).trans p0, (h.cell (p := ⟨(a.add (i * 2)).block, (a.add (i * 2)).off + 1, none⟩) LA.out).trans p1⟩))
        have KW := Lib.hid (fun W (h : Below w.heap.size wr W) => (show W.cell? (a.add (i * 2)) = some (.int .i64 k) ∧ W.cell? ⟨(a.add (i * 2)).block, (a.add (i * 2)).off + 1, none⟩ = some (.int .i64 n) from ⟨(h.cell LW.out).trans p0, (h.cell (p := ⟨(a.add (i * 2)).block, (a.add (i * 2)).off + 1, none⟩) LW.out).trans p1⟩))
        have i1 : (0 : Int) ≤ (i : Int) := by omega
        have i2 : (i : Int) < (N : Int) := by omega
        have KC0 := Lib.hid (KX.out _ (Below.refl wr.heap.size wr).drew)
        have hbd := (Below.refl wr.heap.size wr).drew
        have HBD := Lib.hid hbd
        have HBW := Lib.hid HB.out.size
        clear hx hrng hcat hd ht hp' la ho hds hts hsz9 hcells hhs hh1 hh2 hbd
        go_wp2_with fail
        go_region_held3 (fun w' => w'.cell? (a.add (i * 2)) = some (.int .i64 k) ∧ w'.cell? ⟨(a.add (i * 2)).block, (a.add (i * 2)).off + 1, none⟩ = some (.int .i64 n)) (first | exact KC0.out | exact KX.out _ hb5 | exact hcA)
          (first
            | (go_at_call 15; refine (HD.out _).mono ?_; rintro e w4 ⟨rfl, rfl⟩)
            | (go_at_call 5; refine (HI.out _).mono ?_; rintro e w5 ⟨rfl, hb5x⟩; have hb5 := HBD.out.trans (hb5x.mono HBD.out.size); have hro := row_stayL HO.out hb5; have hsz := Nat.le_trans HBW.out hb5.size)
            | (refine wp_append_str (.tmp 15) (.tmp 25) 42 9 rfl w.heap.size 5 i0 Tryd.underlying42 Tryd.underlying9 hi0 hz0 hz1 hz2 _ _ _ rfl hro _ rfl HM1.out HM2.out hsz ?_; intro v9 w9 ho9 hg9; have hb9 : Below w.heap.size wr w9 := (hb5.mono HBW.out).grown hg9 hsz (fun q hq => (World.ownsRow.lt HO.out q hq).1); have hcA := KW.out _ hb9))
        have HB9 : Hid (Below w.heap.size w w9) := Lib.hid (HB.out.trans hb9)
        have HR9 : Hid (w9.ownsRow w.heap.size 5 1 v9 (headL xs (i + 1)).length ((headL xs (i + 1)).map fun b => Value.int .u8 (b.toNat : Int))) := Lib.hid (by
          rw [← HLN.out.1, ← HLN.out.2]
          exact ho9)
        clear ho9 hg9 hcA hb9 hro hb5 hb5x hsz HO HB HLN KX KW KC0 HBD HBW p0 p1 HM1 HM2
        go_wp2_with fail
        go_roundw
        case rel => exact ⟨i + 1, by go_num, by omega, HR9.out, HB9⟩
        case measure => simp [intOf]; omega
      · obtain rfl : i = N := by omega
        have hstr := own_string (P := Tryd.prog) (src := 42) (dst := 9) Tryd.underlying42 Tryd.underlying5 Tryd.underlying9 ho
        clear ho
        go_wp2_with fail
        go_ret
        exact ⟨rfl, HB.out⟩
end Go.Proofs.YthihfgjolioabaaDoor
