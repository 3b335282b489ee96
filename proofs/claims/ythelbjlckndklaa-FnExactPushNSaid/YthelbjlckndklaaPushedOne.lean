/-
  The closure of pushed.
-/
import Derived.Test.YthelbjlckndklaaTell
import Derived.Test.YthelbjlckndklaaPutTot
namespace Go.Proofs.Ythelbjlckndklaa
open Go.RowKit Go

set_option maxRecDepth 100000 in
set_option maxHeartbeats 2500000 in
theorem pushed_one (d r m c v o i : Value) (S : S8) (y : Int) (g b lo hi : Nat) (w : World) (hdl : S.data.length ≤ 16) (ho : OwnSt w lo hi d r m c v o i S) (hs : totSt S ≤ 4000000) (hhi : hi ≤ w.heap.size) (hlo : lo ≤ hi) (hB : Blk w g 83 #[d, r, .int .i32 S.a, m, c, v, o, i, .int .i64 S.fault, .int .i64 S.fuel]) (hc : w.cell? ⟨b, 0, none⟩ = some (.int .i32 y)) :
    Calls Try.prog 65 #[.pointer (some ⟨g, 0, none⟩), .pointer (some ⟨b, 0, none⟩)] w (BenchEnd w g lo hi d r m c v o i S (put8 S 0 [y])) := by
  obtain ⟨⟨A0, a0, rfl⟩, ⟨A1, a1, rfl⟩, ⟨A2, a2, rfl⟩, ⟨A3, a3, rfl⟩, ⟨A4, a4, rfl⟩, ⟨A5, a5, rfl⟩, ⟨A6, a6, rfl⟩⟩ := ho.form hs
  have HO := Lib.hid (ho.alloc (.cells #[.int .i32 y] 21))
  have HB := Lib.hid (hB.alloc (.cells #[.int .i32 y] 21))
  have HC := Lib.hid (show Chg w (w.alloc (.cells #[.int .i32 y] 21)) (fun k => k = g) from .of_below (below_alloc _ _))
  have HL := Lib.hid hlo
  have HH := Lib.hid hhi
  obtain ⟨n, hn⟩ : ∃ n, S.data.length = n := ⟨_, rfl⟩
  have HN := Lib.hid hn
  have HDL : Hid (n ≤ 16) := Lib.hid (by omega)
  clear ho hB hlo hhi hs hdl hn
  go_enter Try.func65, Try.ntmps65
  go_wp2_with fail
  refine (tell_any lo g A0 n a0 (S.data.take n) _ [y] _ _ _ _ _ _ _ _ _ _ (by rw [← HN.out]; simp) HDL.out (by simp) (by have h1 := HL.out; have h2 := HH.out; simp; omega) (by rw [← HN.out]; exact HB.out) (by rw [← HN.out]; have := HO.out.d; rw [List.take_length]; exact this) (rdI_new w 21 [y] (by simp))).mono ?_
  intro e w1 hT
  have hE := told_end (t := 0) (S2 := S) HC.out HH.out (show Value.slice A0 S.data.length a0 = .slice A0 S.data.length a0 from rfl) rfl (by rw [HN.out]; rfl) HO.out HO.out ⟨_, _, HB.out, rfl⟩ (fun _ => by rw [← HN.out]; simp) hT
  obtain ⟨v', rfl, -⟩ := hT
  have HE := Lib.hid hE
  clear hE HO HB HC
  generalize (if 16 < (S.data.take n ++ [y]).length then (2 : Int) else 0) = q at HE ⊢
  go_wp2_with fail
  go_ret
  exact HE.out
end Go.Proofs.Ythelbjlckndklaa
