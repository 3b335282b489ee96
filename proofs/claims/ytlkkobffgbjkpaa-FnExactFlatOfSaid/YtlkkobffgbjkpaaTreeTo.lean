/-
  Lists of trees: a copy of one.
-/
import Derived.Test.YtlkkobffgbjkpaaTreeW
import Derived.Test.YtlkkobffgbjkpaaTreesS
import Derived.Deep.Cut
namespace Go.Proofs.Ytlkkobffgbjkpaa
open Go.RowKit Go

/-- Trees as they are laid first. -/
abbrev zTr (n : Nat) : List Tr := List.replicate n (.mk 0 0 [])
def cpT (ts : List Tr) (i : Nat) : List Tr := ts.take i ++ zTr (ts.length - i)
theorem cpT_len (ts : List Tr) (i : Nat) (h : i ≤ ts.length) : (cpT ts i).length = ts.length := by simp [cpT]; omega
theorem cpT_set {ts : List Tr} {i : Nat} (h : i < ts.length) : (cpT ts i).set i ts[i] = cpT ts (i + 1) := by
  obtain ⟨m, hm⟩ : ∃ m, ts.length - i = m + 1 := ⟨ts.length - i - 1, by omega⟩
  unfold cpT
  rw [hm, show ts.length - (i + 1) = m by omega, List.set_append_right _ _ (by simp; omega), List.length_take, show i - min i ts.length = 0 by omega]
  unfold zTr
  rw [List.replicate_succ, List.set_cons_zero, ← List.take_append_getElem h, List.append_assoc]
  rfl
theorem cpT_full (ts : List Tr) : cpT ts ts.length = ts := by simp [cpT]
theorem cpT_zero (ts : List Tr) : cpT ts 0 = zTr ts.length := by simp [cpT]
theorem made_trv (n : Nat) : (madeCells #[Value.int .i64 0, Value.int .i32 0, Value.slice none 0 0] (n * 3)).toList = trv (fun _ => .slice none 0 0) 0 (zTr n) := by
  refine List.ext_getElem (by simp [madeCells, trv_len]) fun i h1 h2 => ?_
  have h3 : i < n * 3 := by simpa [madeCells] using h1
  obtain ⟨j, hj⟩ : ∃ j, i = j * 3 ∨ i = j * 3 + 1 ∨ i = j * 3 + 2 := ⟨i / 3, by omega⟩
  have hjn : j < (zTr n).length := by simp; omega
  have q := trv_get (f := fun _ => Value.slice none 0 0) (i0 := 0) (xs := zTr n) (i := j) hjn
  rcases hj with rfl | rfl | rfl
  · have q := q.1
    rw [List.getElem?_eq_getElem h2] at q
    rw [Option.some.inj q]
    simp [madeCells, Tr.k]
  · have q := q.2.1
    rw [List.getElem?_eq_getElem h2] at q
    rw [Option.some.inj q]
    have e : (j * 3 + 1) % 3 = 1 := by omega
    simp [madeCells, Tr.n, e]
  · have q := q.2.2
    rw [List.getElem?_eq_getElem h2] at q
    rw [Option.some.inj q]
    have e : (j * 3 + 2) % 3 = 2 := by omega
    simp [madeCells, e]
theorem trv_put (f : Nat → Value) (i0 : Nat) {xs : List Tr} {i : Nat} (h : i < xs.length) (K N : Int) (kv : Value) (c : List Tr) : (((trv f i0 xs).set (i * 3) (.int .i64 K)).set (i * 3 + 1) (.int .i32 N)).set (i * 3 + 2) kv = trv (fun j => if j = i0 + i then kv else f j) i0 (xs.set i (.mk K N c)) := by
  induction xs generalizing i i0 with
  | nil => simp at h
  | cons s r ih =>
    cases i with
    | zero =>
      simp only [trv, List.set_cons_zero, Nat.zero_mul, Nat.add_zero, Nat.zero_add, List.set_cons_succ, Tr.k, Tr.n, if_true]
      rw [trv_congr (f2 := fun j => if j = i0 then kv else f j) (fun j hj => by rw [if_neg (by omega)])]
    | succ i =>
      have := ih (i0 + 1) (i := i) (by simpa using h)
      rw [show (i + 1) * 3 = i * 3 + 3 by omega, show i * 3 + 3 + 1 = i * 3 + 1 + 3 by omega, show i * 3 + 3 + 2 = i * 3 + 2 + 3 by omega]
      simp only [trv, List.set_cons_succ, show i0 + (i + 1) = i0 + 1 + i by omega]
      rw [this, if_neg (by omega)]
/-- One tree of a row is another one. -/
theorem PartsT.put {w3 w4 : World} {base g cap : Nat} {xs c2 : List Tr} {S S2 : Nat → Prop} {f : Nat → Value} {bs : Nat → Nat → Prop} {i : Nat} {K N : Int} {kv : Value} (P : PartsT w3 base (.slice (some ⟨g, 0, none⟩) xs.length cap) xs S f bs)
    (hr : w4.ownsRow base 83 3 (.slice (some ⟨g, 0, none⟩) xs.length cap) xs.length (trv (fun j => if j = 0 + i then kv else f j) 0 (xs.set i (.mk K N c2)))) (hg : w3.grownBy w4 (some g)) (ho : OwnT w3 base kv c2 S2) (hd : ∀ b, S b → ¬ S2 b) :
    PartsT w4 base (.slice (some ⟨g, 0, none⟩) xs.length cap) (xs.set i (.mk K N c2)) (fun b => S b ∨ S2 b) (fun j => if j = 0 + i then kv else f j) (fun j => if j = i then S2 else bs j) := by
  have hgo : (Value.slice (some ⟨g, 0, none⟩) xs.length cap).ownBlock = some g := by simp [Value.ownBlock]
  have hSg : S g := P.sub g (.inl hgo)
  refine ⟨by rw [List.length_set]; exact hr, fun j hj => ?_, fun b hb j hj => ?_, fun j l b hj hl hjl hb => ?_, fun b hb => ?_, fun b hb => ?_⟩
  · have hj' : j < xs.length := by simpa using hj
    by_cases hij : i = j
    · subst hij
      simp only [List.getElem_set_self, Tr.kids, Nat.zero_add, if_true]
      exact ho.kept hg.size (fun b hb => hg.block b (ho.bound b hb).2 (fun e => by injection e with e; subst e; exact hd _ hSg hb))
    · simp only [List.getElem_set_ne hij, Nat.zero_add]
      rw [if_neg (fun e => hij e.symm), if_neg (fun e => hij e.symm)]
      exact (P.kids j hj').kept hg.size (fun b hb => hg.block b (P.bound b (P.sub b (.inr ⟨j, hj', hb⟩))).2 (fun e => by injection e with e; subst e; exact P.d1 _ hgo j hj' hb))
  · have hj' : j < xs.length := by simpa using hj
    by_cases hij : j = i
    · simp only [if_pos hij]; exact fun h => hd b (P.sub b (.inl hb)) h
    · simp only [if_neg hij]; exact P.d1 b hb j hj'
  · have hj' : j < xs.length := by simpa using hj
    have hl' : l < xs.length := by simpa using hl
    by_cases hij : j = i
    · simp only [if_pos hij] at hb
      have hli : ¬ l = i := fun e => hjl (hij.trans e.symm)
      simp only [if_neg hli]
      exact fun h => hd b (P.sub b (.inr ⟨l, hl', h⟩)) hb
    · simp only [if_neg hij] at hb
      by_cases hli : l = i
      · simp only [if_pos hli]; exact hd b (P.sub b (.inr ⟨j, hj', hb⟩))
      · simp only [if_neg hli]; exact P.d2 j l b hj' hl' hjl hb
  · rcases hb with hb | ⟨j, hj, hb⟩
    · exact .inl (P.sub b (.inl hb))
    · have hj' : j < xs.length := by simpa using hj
      by_cases hij : j = i
      · simp only [if_pos hij] at hb; exact .inr hb
      · simp only [if_neg hij] at hb; exact .inl (P.sub b (.inr ⟨j, hj', hb⟩))
  · have hz := hg.size
    rcases hb with hb | hb
    · have := P.bound b hb; exact ⟨this.1, by omega⟩
    · have := ho.bound b hb; exact ⟨this.1, by omega⟩
theorem parts_zero {w : World} {base g n : Nat} (h : w.ownsRow base 83 3 (.slice (some ⟨g, 0, none⟩) n n) n (trv (fun _ => .slice none 0 0) 0 (zTr n))) : PartsT w base (.slice (some ⟨g, 0, none⟩) n n) (zTr n) (fun b => b = g) (fun _ => .slice none 0 0) (fun _ _ => False) :=
  ⟨by rw [List.length_replicate]; exact h, fun i hi => by
    simp only [List.getElem_replicate, Tr.kids]
    exact OwnT.nil _ _, fun b hb j hj h => h, fun j l b _ _ _ h => h.elim, fun b hb => by
    rcases hb with hb | ⟨_, _, hb⟩
    · have hb : some g = some b := hb
      injection hb with hb; exact hb.symm
    · exact hb.elim, fun b hb => by rw [hb]; exact World.ownsRow.lt h g (by simp [Value.ownBlock])⟩
set_option maxRecDepth 100000 in
set_option maxHeartbeats 4000000 in
theorem to_tree (kids : List Tr) (ih : ∀ a W, RdT W a kids → Calls Try.prog 32 #[a] W (NewT kids W)) (k n : Int) (B : Option Addr) (m c : Nat) (w : World) (hr : RdT w (.slice B m c) kids) :
    Calls Try.prog 62 #[.agg #[.int .i64 k, .int .i32 n, .slice B m c]] w fun e w' => ∃ v S, e = .returned (.agg #[.int .i64 k, .int .i32 n, v]) ∧ OwnT w' w.heap.size v kids S ∧ Below w.heap.size w w' := by
  obtain ⟨W3, hW3⟩ : ∃ W, W = (((w.alloc (.cells #[.int .i64 k, .int .i32 n, .slice B m c] 101)).alloc (.cells #[.int .i64 0, .int .i32 0, .slice none 0 0] 83)).alloc (.cells #[.int .i64 k, .int .i32 n, .slice none 0 0] 83)) := ⟨_, rfl⟩
  have b1 := below_alloc1 w (.cells #[.int .i64 k, .int .i32 n, .slice B m c] 101)
  have b2 := b1.alloc b1.size (.cells #[.int .i64 0, .int .i32 0, .slice none 0 0] 83)
  have b3 := b2.alloc b2.size (.cells #[.int .i64 k, .int .i32 n, .slice none 0 0] 83)
  have k2 := (Blk.new (w.alloc (.cells #[.int .i64 k, .int .i32 n, .slice B m c] 101)) 83 #[.int .i64 0, .int .i32 0, .slice none 0 0]).alloc (.cells #[.int .i64 k, .int .i32 n, .slice none 0 0] 83)
  have k3 := Blk.new ((w.alloc (.cells #[.int .i64 k, .int .i32 n, .slice B m c] 101)).alloc (.cells #[.int .i64 0, .int .i32 0, .slice none 0 0] 83)) 83 #[.int .i64 k, .int .i32 n, .slice none 0 0]
  rw [← hW3] at b3 k2 k3
  rw [World.size_alloc] at k2 k3
  rw [World.size_alloc] at k3
  have hsz3 : W3.heap.size = w.heap.size + 3 := by rw [hW3, World.size_alloc, World.size_alloc, World.size_alloc]
  have HW3 := Lib.hid hW3
  have B3 := Lib.hid b3
  have K2 := Lib.hid k2
  have K3 := Lib.hid k3
  have HS3 := Lib.hid hsz3
  have HC := Lib.hid (ih (.slice B m c) W3 (hr.stay b3))
  clear hr hW3 b1 b2 b3 k2 k3 hsz3 ih
  go_enter Try.func62, Try.ntmps62
  go_wp2_with fail
  rw [← HW3.out]
  refine HC.out.mono ?_
  rintro e w4 ⟨v4, S, rfl, ho4, hb4⟩
  obtain ⟨D, dc, rfl⟩ := ho4.rd.form
  have q2 := K2.out.below hb4 K2.out.lt
  have q3 := K3.out.below hb4 K3.out.lt
  have p3_0 : w4.cell? ⟨w.heap.size + 1 + 1, 0, none⟩ = some (.int .i64 k) := q3.cell 0
  have p3_1 : w4.cell? ⟨w.heap.size + 1 + 1, 1, none⟩ = some (.int .i32 n) := q3.cell 1
  have p3_2 : w4.cell? ⟨w.heap.size + 1 + 1, 2, none⟩ = some (.slice none 0 0) := q3.cell 2
  have p2_0 : w4.cell? ⟨w.heap.size + 1, 0, none⟩ = some (.int .i64 0) := q2.cell 0
  have p2_1 : w4.cell? ⟨w.heap.size + 1, 1, none⟩ = some (.int .i32 0) := q2.cell 1
  have p2_2 : w4.cell? ⟨w.heap.size + 1, 2, none⟩ = some (.slice none 0 0) := q2.cell 2
  have f3 := q3.frozen
  have f2 := q2.frozen
  have l3 := q3.lt
  have Q2 := Lib.hid q2
  have HO4 := Lib.hid ho4
  have B4 := Lib.hid (B3.out.trans (hb4.mono B3.out.size))
  clear ho4 hb4 q2 q3 HC
  go_wp2_with fail
  obtain ⟨W5, hW5⟩ : ∃ W, W = ((((w4.setCell ⟨w.heap.size + 1 + 1, 2, none⟩ (.slice D kids.length dc)).setCell ⟨w.heap.size + 1, 0, none⟩ (.int .i64 k)).setCell ⟨w.heap.size + 1, 1, none⟩ (.int .i32 n)).setCell ⟨w.heap.size + 1, 2, none⟩ (.slice D kids.length dc)) := ⟨_, rfl⟩
  have r2 : Blk W5 (w.heap.size + 1) 83 #[.int .i64 k, .int .i32 n, .slice D kids.length dc] := by
    have := (((Q2.out.far (p := ⟨w.heap.size + 1 + 1, 2, none⟩) (show w.heap.size + 1 ≠ w.heap.size + 1 + 1 by omega) (.slice D kids.length dc)).put 0 (.int .i64 k)).put 1 (.int .i32 n)).put 2 (.slice D kids.length dc)
    rw [hW5]
    simpa using this
  have b5 : Below w.heap.size w W5 := by
    rw [hW5]
    exact (((B4.out.setCell (p := ⟨w.heap.size + 1 + 1, 2, none⟩) (show w.heap.size ≤ w.heap.size + 1 + 1 by omega) (.slice D kids.length dc)).setCell (p := ⟨w.heap.size + 1, 0, none⟩) (show w.heap.size ≤ w.heap.size + 1 by omega) (.int .i64 k)).setCell (p := ⟨w.heap.size + 1, 1, none⟩) (show w.heap.size ≤ w.heap.size + 1 by omega) (.int .i32 n)).setCell (p := ⟨w.heap.size + 1, 2, none⟩) (show w.heap.size ≤ w.heap.size + 1 by omega) (.slice D kids.length dc)
  have hz5 : W5.heap.size = w4.heap.size := by rw [hW5]; simp [World.setCell]
  have o5 : OwnT W5 w.heap.size (.slice D kids.length dc) kids S := (HO4.out.kept (by omega) (fun g hg => by
    have hgb := (HO4.out.bound g hg).1
    have h3 := HS3.out
    rw [hW5]
    rw [Below.heap_setCell _ _ _ g (show g ≠ w.heap.size + 1 by omega), Below.heap_setCell _ _ _ g (show g ≠ w.heap.size + 1 by omega), Below.heap_setCell _ _ _ g (show g ≠ w.heap.size + 1 by omega), Below.heap_setCell _ _ _ g (show g ≠ w.heap.size + 1 + 1 by omega)])).mono (by rw [HS3.out]; omega)
  clear p3_0 p3_1 p3_2 p2_0 p2_1 p2_2 f2 f3 l3
  show bodyPost _ _ _ _ _ ((((w4.setCell ⟨w.heap.size + 1 + 1, 2, none⟩ (.slice D kids.length dc)).setCell ⟨w.heap.size + 1, 0, none⟩ (.int .i64 k)).setCell ⟨w.heap.size + 1, 1, none⟩ (.int .i32 n)).setCell ⟨w.heap.size + 1, 2, none⟩ (.slice D kids.length dc))
  rw [← hW5]
  have z0 : W5.cell? ⟨w.heap.size + 1, 0, none⟩ = some (.int .i64 k) := r2.cell 0
  have z1 : W5.cell? ⟨w.heap.size + 1, 1, none⟩ = some (.int .i32 n) := r2.cell 1
  have z2 : W5.cell? ⟨w.heap.size + 1, 2, none⟩ = some (.slice D kids.length dc) := r2.cell 2
  clear hW5
  exact bodyPost_ret (v := .agg #[.int .i64 k, .int .i32 n, .slice D kids.length dc]) (by simp [results, Try.results62, z0, z1, z2, go_sem]) rfl ⟨_, S, rfl, o5, b5⟩
set_option maxRecDepth 100000 in
set_option maxHeartbeats 4000000 in
theorem toT_all : ∀ (M : Nat) (ts : List Tr), sizeL ts < M → sizeL ts ≤ 2000000 → ∀ (v : Value) (w : World), RdT w v ts → Calls Try.prog 32 #[v] w (NewT ts w) := by
  intro M
  induction M with
  | zero => intro ts h; omega
  | succ M ih =>
    intro ts hM hzm v w hr
    obtain ⟨i0, hi0, hz0, hz1, hz2⟩ := info_parts infoTr
    obtain ⟨A, ca, rfl⟩ := hr.form
    have HA := Lib.hid (fun W (h : Below w.heap.size w W) => hr.stay h)
    have HIH := Lib.hid (fun i (hi : i < ts.length) => ih ts[i].kids (by have := sizeL_get hi; omega) (by have := sizeL_get hi; omega))
    have hx : ts.length ≤ 2000000 := Nat.le_trans (sizeL_len ts) hzm
    clear hr ih hM hzm
    go_enter Try.func32, Try.ntmps32
    go_wp2_with (refine wpList_make_full _ rfl _ _ _ rfl w.heap.size 83 i0 (.agg #[.int .i64 0, .int .i32 0, .slice none 0 0]) 3 Try.underlying26 hi0 hz0 hz1 .i64 .i64 _ _ ts.length rfl rfl rfl rfl (by rw [hz2]; omega) (by unfold maxLen; omega) (Nat.le_refl _) ?_; intro w1 hown hgr)
    have hb1 : Below w.heap.size w w1 := (Below.refl _ _).grown hgr (Nat.le_refl _) (fun k hk => by cases hk)
    have hown1 : w1.ownsRow w.heap.size 83 3 (.slice (some ⟨w.heap.size, 0, none⟩) ts.length ts.length) ts.length (trv (fun _ => .slice none 0 0) 0 (zTr ts.length)) := by rw [← made_trv]; exact hown
    have HB1 := Lib.hid hb1
    have HP1 : Hid (PartsT w1 w.heap.size (.slice (some ⟨w.heap.size, 0, none⟩) ts.length ts.length) (cpT ts 0) (fun b => b = w.heap.size) (fun _ => .slice none 0 0) (fun _ _ => False)) := Lib.hid (by rw [cpT_zero]; exact parts_zero hown1)
    clear hown hgr hb1 hown1
    go_loopw [4] (fun vi wr => ∃ (i : Nat) (S : Nat → Prop) (f : Nat → Value) (bs : Nat → Nat → Prop), vi = .int .i64 i ∧ i ≤ ts.length ∧ Hid (PartsT wr w.heap.size (.slice (some ⟨w.heap.size, 0, none⟩) ts.length ts.length) (cpT ts i) S f bs) ∧ Hid (Below w.heap.size w wr)) (fun vi _ => ts.length - (intOf vi).toNat)
    case atStart => exact ⟨0, _, _, _, rfl, by omega, HP1, HB1⟩
    case round =>
      clear HP1 HB1
      obtain ⟨i, S, f, bs, rfl, hi2, HP, HB⟩ := hrel
      by_cases hp : i < ts.length
      · obtain ⟨ga, B, m, bc, rfl, -, c0, c1, c2, r1, e1⟩ := (HA.out wr HB.out).item hp
        have hic := HIH.out i hp
        have hcp := cpT_set hp
        obtain ⟨x, hx'⟩ : ∃ x, ts[i] = x := ⟨_, rfl⟩
        obtain ⟨k, n, kids⟩ := x
        rw [hx'] at c0 c1 r1 e1 hic hcp
        simp only [Tr.k, Tr.n, Tr.kids] at c0 c1 r1 e1 hic
        have i1 : (0 : Int) ≤ (i : Int) := by omega
        have i2 : (i : Int) < (ts.length : Int) := by omega
        have HCP := Lib.hid hcp
        have HC := Lib.hid (to_tree kids hic k n B m bc wr r1)
        clear hx' hic r1 e1 hcp
        go_wp2_with fail
        refine HC.out.mono ?_
        rintro e w3 ⟨kv, S2, rfl, ho3, hb3⟩
        obtain ⟨KA, kc, rfl⟩ := ho3.rd.form
        have hl := cpT_len ts i (by omega)
        have P3 := HP.out.kept hb3.size (fun g hg => hb3.block g (HP.out.bound g hg).2)
        have hd : ∀ b, S b → ¬ S2 b := fun b h1 h2 => by have := (HP.out.bound b h1).2; have := (ho3.bound b h2).1; omega
        have hrow := P3.row
        rw [hl] at hrow
        have ht3 := trv_get (f := f) (i0 := 0) (xs := cpT ts i) (i := i) (by omega)
        obtain ⟨u0, d0⟩ : ∃ u, w3.cell? ⟨w.heap.size, i * 3, none⟩ = some u := ⟨_, (hrow.cellAt (i * 3) (by omega)).trans ht3.1⟩
        obtain ⟨u1, d1⟩ : ∃ u, w3.cell? ⟨w.heap.size, i * 3 + 1, none⟩ = some u := ⟨_, (hrow.cellAt (i * 3 + 1) (by omega)).trans ht3.2.1⟩
        obtain ⟨u2, d2⟩ : ∃ u, w3.cell? ⟨w.heap.size, i * 3 + 2, none⟩ = some u := ⟨_, (hrow.cellAt (i * 3 + 2) (by omega)).trans ht3.2.2⟩
        have f0 := hrow.frozenAt (i * 3)
        have f1 := hrow.frozenAt (i * 3 + 1)
        have f2 := hrow.frozenAt (i * 3 + 2)
        have s1 := hrow.stored (i * 3) (.int .i64 k)
        have s2 := s1.1.stored (i * 3 + 1) (.int .i32 n)
        have s3 := s2.1.stored (i * 3 + 2) (.slice KA kids.length kc)
        have hs := s3.1
        rw [trv_put f 0 (by omega) k n (.slice KA kids.length kc) kids] at hs
        have hgr := only_trans (only_trans s1.2 s2.2) s3.2
        have HB3 := Lib.hid (HB.out.trans (hb3.mono HB.out.size))
        have HPP := Lib.hid (PartsT.put (cap := ts.length) (xs := cpT ts i) (i := i) (K := k) (N := n) (kv := .slice KA kids.length kc) (c2 := kids) (by rw [hl]; exact P3) (by rw [hl]; exact hs) hgr (ho3.mono HB.out.size) hd)
        rw [hl, HCP.out] at HPP
        have HG := Lib.hid (HB3.out.grown hgr HB3.out.size (fun k hk => by injection hk with hk; omega))
        clear s1 s2 s3 hs hl HP HB hb3 P3 hd hrow ht3 hgr HCP c0 c1 c2 ho3 HC HB3
        go_wp2_with fail
        go_roundw
        case rel => exact ⟨i + 1, _, _, _, by go_num, by omega, HPP, HG⟩
        case measure => simp [intOf]; omega
      · obtain rfl : i = ts.length := by omega
        have HO := Lib.hid HP.out.own
        rw [cpT_full] at HO
        clear HP
        go_wp2
        go_ret
        exact ⟨_, S, rfl, HO.out, HB.out⟩
theorem toT_any (ts : List Tr) (hz : sizeL ts ≤ 2000000) (v : Value) (w : World) (hr : RdT w v ts) : Calls Try.prog 32 #[v] w (NewT ts w) := toT_all (sizeL ts + 1) ts (by omega) hz v w hr
end Go.Proofs.Ytlkkobffgbjkpaa
