/-
  The law laws.FnExactItemText, as a walk: the model's text and the program's are one, whatever the tables of kinds and codes hold.
  An item that comes in: what its five cells are.
  A row whose condition lists what some package-level variables hold: the world's shape (which kinds the cells of the other variables have) is at hand in the walk too.
-/
import Derived.Test.YtogdbfjagnbllaaDoorIT6
import Derived.Test.YtogdbfjagnbllaaDoorIT5
import Derived.HandedShaped
import Derived.Test.YtogdbfjagnbllaaDoorIT2
namespace Go.Proofs.YtogdbfjagnbllaaDoor
open Go.RowKit Go

set_option maxHeartbeats 4000000 in
theorem law_FnExactItemText (k : Int) (nm : ByteArray) (n : Int) (x : Bool) (r : Nat) (hk : -9223372036854775808 ≤ k ∧ k ≤ 9223372036854775807) (hn : -2147483648 ≤ n ∧ n ≤ 2147483647) (hr : r < 4294967296) (hm : nm.size ≤ 9223372036854775807) (w : World) (hcs : TextIn w) :
    Calls Tryd.prog 3 #[itA k nm n x (r : Int)] w fun e w' => e = .returned (.bool true) ∧ Below w.heap.size w w' := by
  by_cases hs : (nm.size : Int) ≤ 1048576
  · have hin : ItIn ⟨k, nm, n, x, r⟩ := ⟨hk.1, hk.2, hn.1, hn.2, hr, show nm.size ≤ _ by omega⟩
    have HZ := Lib.hid (fun W => szitem_fit k nm n x (r : Int) 1048576 (by omega) hs W)
    have HT := Lib.hid (fun W => toitem_any k nm n x (r : Int) W)
    have HS := Lib.hid (fun W => spec_itemtext ⟨k, nm, n, x, r⟩ hin W)
    have HI := Lib.hid (fun W (hb : Below w.heap.size w W) => impl_itemtext ⟨k, nm, n, x, r⟩ hin W (hcs.below hb))
    obtain ⟨b, hb⟩ : ∃ b : ByteArray, (⟨(textOf ⟨k, nm, n, x, r⟩).toArray⟩ : ByteArray) = b := ⟨_, rfl⟩
    unfold TextEnd at HS HI
    rw [hb] at HS HI
    have hz : ¬ ((1048576 : Int) - (nm.size : Int) < 0) := by omega
    clear hb hin hcs hk hn hr
    go_enter Tryd.func3, Tryd.ntmps3
    go_wp2_with fail
    refine (HZ.out _).mono ?_
    rintro e w1 ⟨rfl, hb1⟩
    have hx1 := box_mono (box_start w _) (hb1.mono (by simp))
    obtain ⟨c0, c1, c2, c3, c4⟩ := it_box hx1
    have HX := Lib.hid hx1
    clear hb1 hx1
    go_wp2_with fail
    refine (HT.out _).mono ?_
    rintro e w2 ⟨rfl, hb2⟩
    have HX2 := Lib.hid (box_mono HX.out hb2)
    clear hb2 c0 c1 c2 c3 c4
    go_wp2_with fail
    refine (HS.out _).mono ?_
    rintro e w3 ⟨rfl, hb3⟩
    have hx3 := box_mono HX2.out hb3
    obtain ⟨c0, c1, c2, c3, c4⟩ := it_box hx3
    have HX3 := Lib.hid hx3
    clear hb3 hx3
    go_wp2_with fail
    refine (HT.out _).mono ?_
    rintro e w4 ⟨rfl, hb4⟩
    have HX4 := Lib.hid (box_mono HX3.out hb4)
    clear hb4 c0 c1 c2 c3 c4
    go_wp2_with fail
    refine (HI.out _ (box_below HX4.out)).mono ?_
    rintro e w5 ⟨rfl, hb5⟩
    have HX5 := Lib.hid (box_mono HX4.out hb5)
    clear hb5
    go_wp2_with fail
    go_ret
    exact ⟨rfl, box_below HX5.out⟩
  · have HZ := Lib.hid (fun W => szitem_no k nm n x (r : Int) 1048576 (by omega) (by omega) hm W)
    clear hcs hk hn hr hs
    go_enter Tryd.func3, Tryd.ntmps3
    go_wp2_with fail
    refine (HZ.out _).mono ?_
    rintro e w1 ⟨rfl, hb1⟩
    have HX := Lib.hid (box_mono (box_start w _) (hb1.mono (by simp)))
    clear hb1
    go_wp2_with fail
    go_ret
    exact ⟨rfl, box_below HX.out⟩
end Go.Proofs.YtogdbfjagnbllaaDoor

namespace Go.Proofs.YtogdbfjagnbllaaDoor
open Go.RowKit Go

section
variable {P : Program} {w : World} {r : Reach} {base : Nat}
theorem cell_int {t : TypeId} {v : Value} {k : IntKind} (ht : P.underlying t = some (.int k)) (h : Cell.okWide P w r base t v) : ∃ n, v = .int k n ∧ k.has n := by
  unfold Cell.okWide at h
  rw [ht] at h
  unfold Cell.ok at h
  cases v <;> simp [ht] at h
  case int k' n => exact ⟨n, by rw [h.1], h.2⟩
theorem cell_bool {t : TypeId} {v : Value} (ht : P.underlying t = some .bool) (h : Cell.okWide P w r base t v) : ∃ b, v = .bool b := by
  unfold Cell.okWide at h
  rw [ht] at h
  unfold Cell.ok at h
  cases v <;> simp [ht] at h
  case bool b => exact ⟨b, rfl⟩
theorem cell_string {t : TypeId} {v : Value} (ht : P.underlying t = some .string) (h : Cell.okWide P w r base t v) : ∃ s : ByteArray, v = .string s ∧ s.size ≤ 9223372036854775807 := by
  unfold Cell.okWide at h
  rw [ht] at h
  unfold Cell.ok at h
  cases v <;> simp [ht] at h
  case string s =>
    refine ⟨s, rfl, ?_⟩
    have e : IntKind.i64.max = 9223372036854775807 := by decide
    omega
end
/-- What an item holds lies in its kinds' ranges. -/
def ItRange (k : Int) (nm : ByteArray) (n : Int) (r : Nat) : Prop := (-9223372036854775808 ≤ k ∧ k ≤ 9223372036854775807) ∧ (-2147483648 ≤ n ∧ n ≤ 2147483647) ∧ r < 4294967296 ∧ nm.size ≤ 9223372036854775807
theorem open_item {P : Program} {w : World} {rc : Reach} {base : Nat} {t a b c d e : TypeId} {fs : Array Field} {v : Value} (hu : P.underlying t = some (.struct fs)) (hC : P.cellsOf t = 5) (hT : P.cellTypes P.depth t = some [a, b, c, d, e])
    (ha : P.underlying a = some (.int .i64)) (hb : P.underlying b = some .string) (hc : P.underlying c = some (.int .i32)) (hd : P.underlying d = some .bool) (he : P.underlying e = some (.int .u32))
    (h : Value.okWide P w rc base t v) : ∃ (k : Int) (nm : ByteArray) (n : Int) (x : Bool) (r : Nat), v = itA k nm n x (r : Int) ∧ ItRange k nm n r := by
  unfold Value.okWide at h
  rw [hu] at h
  obtain ⟨cs, rfl, hsz, ts, hts, _, hall⟩ := h
  rw [hT] at hts
  cases hts
  obtain ⟨l⟩ := cs
  match l, hsz.trans hC with
  | [c0, c1, c2, c3, c4], _ =>
    obtain ⟨u0, e0, h0⟩ := hall 0 c0 rfl
    obtain ⟨u1, e1, h1⟩ := hall 1 c1 rfl
    obtain ⟨u2, e2, h2⟩ := hall 2 c2 rfl
    obtain ⟨u3, e3, h3⟩ := hall 3 c3 rfl
    obtain ⟨u4, e4, h4⟩ := hall 4 c4 rfl
    obtain rfl : a = u0 := Option.some.inj e0
    obtain rfl : b = u1 := Option.some.inj e1
    obtain rfl : c = u2 := Option.some.inj e2
    obtain rfl : d = u3 := Option.some.inj e3
    obtain rfl : e = u4 := Option.some.inj e4
    obtain ⟨k, rfl, r0⟩ := cell_int ha h0
    obtain ⟨nm, rfl, r1⟩ := cell_string hb h1
    obtain ⟨n, rfl, r2⟩ := cell_int hc h2
    obtain ⟨x, rfl⟩ := cell_bool hd h3
    obtain ⟨r, rfl, r4⟩ := cell_int he h4
    simp [IntKind.has, IntKind.min, IntKind.max, IntKind.signed, IntKind.bits] at r0 r2 r4
    refine ⟨k, nm, n, x, r.toNat, ?_, ⟨r0.1, r0.2⟩, ⟨r2.1, r2.2⟩, by omega, r1⟩
    show Value.agg #[.int .i64 k, .string nm, .int .i32 n, .bool x, .int .u32 r] = .agg #[.int .i64 k, .string nm, .int .i32 n, .bool x, .int .u32 ((r.toNat : Nat) : Int)]
    rw [show ((r.toNat : Nat) : Int) = r by omega]
set_option maxRecDepth 100000 in
theorem law_item {w : World} {rc : Reach} {base : Nat} {v : Value} (h : Value.okWide Tryd.prog w rc base 24 v) : ∃ (k : Int) (nm : ByteArray) (n : Int) (x : Bool) (r : Nat), v = itA k nm n x (r : Int) ∧ ItRange k nm n r :=
  open_item Tryd.underlying24 (by kernel_rfl) (by kernel_rfl) Tryd.underlying3 Tryd.underlying9 Tryd.underlying21 Tryd.underlying4 Tryd.underlying22 h
end Go.Proofs.YtogdbfjagnbllaaDoor

namespace Go.Proofs.YtogdbfjagnbllaaDoor
open Go.ChangeShapes Go.WideShapes Go.ChangeAt Go.ChangeMaps Go.RowKit Go

theorem handed_laid_shaped {H : Type} {enc : TypeId × Value → H} {a : Assume} {C : Checked} {os : Os} {f : FuncId} {fn : Func} {s : ChangeSpec} {conds : List PathCond} {apart fresh handsOn again : Bool} {X : World → Array Value → Prop}
    (hX : ∀ (w w' : World) (args : Array Value), w.heap = w'.heap → X w args → X w' args)
    (own : ownKnob C.prog.godebug = none) (started : os.Started) (noInit : C.prog.inits.idxOf? f = none) (hfn : C.prog.funcs[f]? = some fn)
    (witness : ∃ (w : World) (tape : Tape) (i : Input), w.os = os ∧ (w.forCall tape i).Shaped C.prog ∧ i.vars = [] ∧ Input.okWide C.prog (w.forCall tape i) .any w.heap.size f i ∧
      ((s.pre enc C.prog fn conds apart (w.forCall tape i).memory i.args ∧ X (w.forCall tape i).memory i.args) ∧ sizedMet enc C.prog fn (OpenSpec.ofChange s) apart (w.forCall tape i).memory i.args) ∧ a.holds C.prog (lone (Frame.enter C.prog f i.args .normal) [] (w.forCall tape i)))
    (contract : ∀ (W : World) (base : Nat) (args : Array Value) (ds gs : List (DataW H)) (before : List MemPlace),
      (∀ (j : Nat) t v, fn.params[j]? = some t → args[j]? = some v → Value.okWide C.prog W .any base t v) →
      DataW.Whole enc C.prog fn.params.toList s.vars apart W args.toList ds gs before →
      X W args → W.ShapedOpen C.prog →
      Calls C.prog f args W fun e W' => ∃ v, e = .returned v ∧ s.post enc C.prog fn apart fresh handsOn again W args v W') :
    ReturnsInHanded a C os f .any (fun w args => (s.pre enc C.prog fn conds apart w args ∧ X w args) ∧ sizedMet enc C.prog fn (OpenSpec.ofChange s) apart w args) (s.post enc C.prog fn apart fresh handsOn again) := by
  refine returnsInHanded_of_calls own started noInit witness ?_
  intro w tape i _ hsh _ hok hpre _
  obtain ⟨_, _, _, fn', hfn', _, _, _, _, hval⟩ := hok
  have e : fn' = fn := Option.some.inj (hfn'.symm.trans hfn)
  subst e
  obtain ⟨⟨⟨ds, gs, before, hw, hc⟩, hx⟩, hz⟩ := hpre
  have hw' := DataW.Whole.of_heap (w' := w.forCall tape i) (by rfl) hw
  refine (contract (w.forCall tape i) w.heap.size i.args ds gs before hval hw' (hX _ _ _ (by rfl) hx) hsh).mono fun e W' ⟨v, he, hp⟩ => ?_
  subst he
  exact ChangeSpec.post_blind hp
end Go.Proofs.YtogdbfjagnbllaaDoor
