/-
  A block of a store.
-/
import Derived.Test.YtcddkcejjajlhaaClone
namespace Go.Proofs.Ytcddkcejjajlhaa
open Go.RowKit Go

/-- What BlockOf tells. -/
def blockC (l : List Nat) (b : Int) : List Nat := if hasB l.length b = true then blockL l b.toNat else []
abbrev pairV (b : Bool) (v : Value) : Value := .tuple #[v, .bool b]
theorem RdN.small {w : World} {v : Value} {xs : List Nat} (h : RdN w v xs) : xs.length ≤ 4611686018427387904 := by
  obtain ⟨_, _, _, hl, _⟩ := h
  exact hl
/-- A block's own cells. -/
theorem rd_block {w : World} {a : Addr} {n c k : Nat} {xs : List Nat} (h : RdN w (.slice (some a) n c) xs) (hk : 64 * k + 64 ≤ xs.length) (cp : Nat) : RdN w (.slice (some (a.add (64 * k))) 64 cp) (blockL xs k) := by
  obtain ⟨B, d, e, hl, hc⟩ := h
  injection e with e1 e2 e3
  have hlen := blockL_len hk
  refine ⟨some (a.add (64 * k)), cp, by rw [hlen], by omega, fun i hi => ?_⟩
  obtain ⟨b, hb, hlt, hcell⟩ := hc (64 * k + i) (by omega)
  rw [← e1] at hb
  injection hb with hb
  subst hb
  refine ⟨_, rfl, by rw [addr_addb]; exact hlt, ?_⟩
  rw [Addr.add_add, hcell]
  have hat : ∀ h, (List.take 64 (List.drop (64 * k) xs))[i]'h = xs[64 * k + i] := fun h => by rw [List.getElem_take, List.getElem_drop]
  exact congrArg (fun x => some (u32v x)) (hat hi).symm
theorem rd_some {w : World} {v : Value} {xs : List Nat} (h : RdN w v xs) (hx : 0 < xs.length) : ∃ a c, v = .slice (some a) xs.length c := by
  obtain ⟨A, c, rfl, _, hc⟩ := h
  obtain ⟨a, rfl, -⟩ := hc 0 hx
  exact ⟨a, c, rfl⟩

theorem newr_empty {r : Value → Value} {w w1 : World} (hb : Below w.heap.size w w1) : NewR r w [] (.returned (r (.slice (some ⟨w1.heap.size, 0, none⟩) 0 0))) (w1.alloc (.cells #[] 43)) :=
  ⟨_, rfl, (own_empty w1 43).mono hb.size, hb.alloc hb.size _⟩
set_option maxHeartbeats 1000000 in
theorem impl_blockof (v : Value) (xs : List Nat) (b : Int) (w : World) (hr : RdN w v xs) (hcp : CapOk v) : Calls Try.prog 25 #[stA v, .int .i64 b] w (NewR (pairV (hasB xs.length b)) w (blockC xs b)) := by
  have hl := hr.small
  by_cases hb : hasB xs.length b = true
  · have e : blockC xs b = blockL xs b.toNat := if_pos hb
    rw [e]
    obtain ⟨k, rfl, h1, h2, h3⟩ := hasB_some hb
    have hk : ((k : Int)).toNat = k := rfl
    rw [hk]
    obtain ⟨a, c, rfl⟩ := rd_some hr (by omega)
    have hc : xs.length ≤ c := hcp _ _ _ rfl
    clear hcp
    have HH := Lib.hid (fun W => impl_has (some a) xs.length c hl (k : Int) W)
    rw [hb] at HH ⊢
    have HI := Lib.hid (fun W => impl_blockin a xs.length c k hc hl h3 W)
    have hlen := blockL_len h3
    have HC := Lib.hid (fun W (hbl : Below w.heap.size w W) => clone_any32 _ (blockL xs k) (by omega) W ((rd_block hr h3 64).below hbl))
    clear hl hb e h1 h2 hk hr hc hlen
    go_enter Try.func25, Try.ntmps25
    go_wp2_with fail
    refine (HH.out _).mono ?_
    rintro e w1 ⟨rfl, hb1⟩
    have k1 := (Blk.new w 26 #[.slice (some a) xs.length c]).below hb1 (by simp)
    have c1 : _ = some _ := k1.cell 0
    have HB := Lib.hid ((below_alloc w _).trans (hb1.mono (by simp)))
    clear hb1 k1 HH
    go_wp2_with fail
    refine (HI.out _).mono ?_
    rintro e w2 ⟨rfl, hb2⟩
    have HB2 := Lib.hid (HB.out.trans (hb2.mono HB.out.size))
    clear hb2 HI c1
    go_wp2_with fail
    refine (HC.out _ HB2.out).mono ?_
    rintro e w3 ⟨u, rfl, hown, hb3⟩
    have HO := Lib.hid hown
    have HB3 := Lib.hid (HB2.out.trans (hb3.mono HB2.out.size))
    have HS := Lib.hid HB2.out.size
    clear hown hb3 HC
    go_wp2_with fail
    go_ret2
    exact ⟨u, rfl, HO.out.mono HS.out, HB3.out⟩
  · have hb : hasB xs.length b = false := by simpa using hb
    have e : blockC xs b = [] := if_neg (by rw [hb]; decide)
    rw [e, hb]
    obtain ⟨A, c, rfl⟩ := hr.form
    have HH := Lib.hid (fun W => impl_has A xs.length c hl b W)
    rw [hb] at HH
    clear hr hl e hb hcp
    go_enter Try.func25, Try.ntmps25
    go_wp2_with fail
    refine (HH.out _).mono ?_
    rintro e w1 ⟨rfl, hb1⟩
    have HB := Lib.hid ((below_alloc w _).trans (hb1.mono (by simp)))
    clear hb1
    go_wp2_with fail
    go_ret2
    exact newr_none HB.out
set_option maxHeartbeats 1000000 in
theorem spec_blockof (v : Value) (xs : List Nat) (b : Int) (w : World) (hr : RdN w v xs) (hcp : CapOk v) : Calls Try.prog 39 #[stA v, .int .i64 b] w (NewR (pairV (hasB xs.length b)) w (blockC xs b)) := by
  obtain ⟨i0, hi, hz0, hz1, hz2⟩ := info_parts infoU32
  have hl := hr.small
  by_cases hb : hasB xs.length b = true
  · have e : blockC xs b = blockL xs b.toNat := if_pos hb
    rw [e]
    obtain ⟨k, rfl, h1, h2, h3⟩ := hasB_some hb
    have hk : ((k : Int)).toNat = k := rfl
    rw [hk]
    obtain ⟨a, c, rfl⟩ := rd_some hr (by omega)
    have hc : xs.length ≤ c := hcp _ _ _ rfl
    clear hcp
    have HH := Lib.hid (fun W => spec_has (some a) xs.length c hl (k : Int) W)
    rw [hb] at HH ⊢
    have hlen := blockL_len h3
    have HR := Lib.hid (fun W (hbl : Below w.heap.size w W) => cells_of_rd (((rd_block hr h3 (c - 64 * k)).below hbl).below (below_alloc W (.cells #[] 43))))
    have hx := h3
    have hk11 : k ≤ 11 := by omega
    clear hb e h1 hk hr hlen hl
    go_enter Try.func39, Try.ntmps39
    go_wp2_with fail
    refine (HH.out _).mono ?_
    rintro e w1 ⟨rfl, hb1⟩
    have k1 := (Blk.new w 26 #[.slice (some a) xs.length c]).below hb1 (by simp)
    have c1 : _ = some _ := k1.cell 0
    have HB := Lib.hid ((below_alloc w _).trans (hb1.mono (by simp)))
    have HR1 : Hid (∀ j u, ((blockL xs k).map u32v)[j]? = some u → (w1.alloc (.cells #[] 43)).cell? ((a.add (k * 64)).add j) = some u) := Lib.hid (by rw [Nat.mul_comm k 64]; exact HR.out w1 HB.out)
    have hlen := blockL_len hx
    have HS := Lib.hid HB.out.size
    have hlt1 : w.heap.size < w1.heap.size := k1.lt
    obtain ⟨L, hL⟩ : ∃ L, blockL xs k = L := ⟨_, rfl⟩
    rw [hL] at HR1 hlen ⊢
    have HL := Lib.hid hL
    clear hb1 k1 HH HR hL
    go_wp2_with (at_builtin; refine wpList_append_own _ rfl _ _ 24 rfl w1.heap.size 43 i0 (.int .u32 0) 1 4 Try.underlying24 hi hz0 hz1 hz2 rfl (by decide) _ 0 [] rfl (own_empty w1 43) (a.add (k * 64)) _ _ (L.map u32v) rfl (by simp; omega) HR1.out (one_u32 _) (by unfold maxLen; omega) (by omega) (by simp) ?_; intro v' w2 hown hgr _)
    go_ret2
    rw [HL.out]
    refine ⟨v', rfl, ?_, ?_⟩
    · have hz : 0 + ((k + 1) * 64 - k * 64) = L.length := by omega
      rw [hz, List.nil_append] at hown
      exact hown.mono HS.out
    · exact HB.out.trans (((below_alloc w1 _).grown hgr (by simp) (fun k hk => own_lt (own_empty w1 43) k hk)).mono HS.out)
  · have hb : hasB xs.length b = false := by simpa using hb
    have e : blockC xs b = [] := if_neg (by rw [hb]; decide)
    rw [e, hb]
    obtain ⟨A, c, rfl⟩ := hr.form
    have HH := Lib.hid (fun W => spec_has A xs.length c hl b W)
    rw [hb] at HH
    clear hr hl e hb hcp
    go_enter Try.func39, Try.ntmps39
    go_wp2_with fail
    refine (HH.out _).mono ?_
    rintro e w1 ⟨rfl, hb1⟩
    have HB := Lib.hid ((below_alloc w _).trans (hb1.mono (by simp)))
    clear hb1
    go_wp2_with fail
    go_ret2
    exact newr_empty HB.out
end Go.Proofs.Ytcddkcejjajlhaa
