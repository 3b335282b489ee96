/-
  (*bench).tell: numbers put on a bench.
-/
import Derived.Test.YthelbjlckndklaaBench
namespace Go.Proofs.Ythelbjlckndklaa
open Go.RowKit Go

set_option maxRecDepth 100000 in
set_option maxHeartbeats 2500000 in
theorem tell_any (lo g : Nat) (A : Option Addr) (n cap : Nat) (xs : List Int) (lv : Value) (ys : List Int) (x1 x2 x3 x4 x5 x6 x7 x8 x9 : Value) (w : World) (hn : xs.length = n) (hx : n ≤ 16) (hy : ys.length ≤ 3) (hlo : lo ≤ w.heap.size)
    (hB : Blk w g 83 #[.slice A n cap, x1, x2, x3, x4, x5, x6, x7, x8, x9]) (hO : w.ownsRow lo 21 1 (.slice A n cap) n (xs.map iv)) (hv : RdI w lv ys) :
    Calls Try.prog 66 #[.pointer (some ⟨g, 0, none⟩), lv] w (Told lo g w (.slice A n cap) n (xs ++ ys) x1 x2 x3 x4 x5 x6 x7 x8 x9) := by
  obtain ⟨B, b, rfl⟩ := hv.form
  obtain ⟨i0, hi0, hz0, hz1, hz2⟩ := info_parts infoI
  have SRC := Lib.hid (srcI hv)
  have OD := Lib.hid hO
  have KB := Lib.hid hB
  obtain ⟨p0, p1, p2, p3, p4, p5, p6, p7, p8, p9⟩ := st_cells hB
  have f0 := hB.frozen
  have HN := Lib.hid hn
  clear hv hO hB hn
  go_enter Try.func66, Try.ntmps66
  go_wp2_with (at_builtin; refine wpList_append_src rfl _ _ 22 rfl lo 21 i0 (.int .i32 0) 1 4 Try.underlying22 hi0 hz0 hz1 hz2 rfl (by decide) (.slice A n cap) n (xs.map iv) rfl OD.out (.slice B ys.length b) ys.length (ys.map iv) rfl SRC.out (oneI _) (by unfold maxLen; omega) (by omega) hlo ?_; intro v' w2 hown halt; refine unstop ?_)
  refine Stop.go ?_
  have hgr := halt.out.grown
  have hne : some g ≠ (Value.slice A n cap).ownBlock := box_neG KB.out OD.out (by decide)
  have KB2 := Lib.hid (KB.out.grown hgr hne)
  have hlen : (xs ++ ys).length = n + ys.length := by rw [List.length_append, HN.out]
  have hown2 : w2.ownsRow lo 21 1 v' (n + ys.length) ((xs ++ ys).map iv) := by rw [List.map_append]; exact hown
  obtain ⟨D, dc, rfl⟩ := own_form hown2
  have hsz : w.heap.size ≤ w2.heap.size := hgr.size
  have HT : Hid (∀ e, e = .returned (.int .i64 (if 16 < n + ys.length then 2 else 0)) → Told lo g w (.slice A n cap) n (xs ++ ys) x1 x2 x3 x4 x5 x6 x7 x8 x9 e (w2.setCell ⟨g, 0, none⟩ (.slice D (n + ys.length) dc))) := Lib.hid (by
    rintro e rfl
    have hgd : g < w2.heap.size := KB2.out.lt
    have hned : (Value.slice D (n + ys.length) dc).ownBlock = none ∨ (Value.slice D (n + ys.length) dc).ownBlock ≠ some g := .inr fun e => box_neG KB2.out hown2 (by decide) e.symm
    refine ⟨.slice D (n + ys.length) dc, by rw [hlen], by have := KB2.out.put 0 (.slice D (n + ys.length) dc); simpa using this, ?_, ?_⟩
    · rw [hlen]
      exact hown2.kept (row := some g) (only_setCell (World.grownBy.refl _ _) (.inl rfl) _) hned
    · rw [hlen]
      rcases halt.out with ⟨q, cp, e1, h1, e2, h2⟩ | ⟨h1, h2⟩
      · exact .inl ⟨q, cp, e1, e2, h1, (Chg.of_grown h2 (P := fun k => k = g ∨ k = q) (fun k hk => .inr (by injection hk with hk; exact hk.symm))).set (.inl rfl) _⟩
      · exact .inr ⟨(Chg.of_below h1 (P := fun k => k = g)).set rfl _, h2⟩)
  clear p0 p1 p2 p3 p4 p5 p6 p7 p8 p9 f0 hgr hne
  obtain ⟨p0, p1, p2, p3, p4, p5, p6, p7, p8, p9⟩ := st_cells KB2.out
  have f0 := KB2.out.frozen
  clear hown halt hown2 hlen KB OD SRC
  by_cases h16 : 16 < n + ys.length
  · have g1 : (16 : Int) < (n : Int) + (ys.length : Int) := by omega
    have HT2 := Lib.hid (HT.out _ (by rw [if_pos h16]))
    clear h16 HT
    go_wp2_with fail
    go_ret
    exact HT2.out
  · have g1 : ¬ (16 : Int) < (n : Int) + (ys.length : Int) := by omega
    have HT2 := Lib.hid (HT.out _ (by rw [if_neg h16]))
    clear h16 HT
    go_wp2_with fail
    go_ret
    exact HT2.out
end Go.Proofs.Ythelbjlckndklaa
