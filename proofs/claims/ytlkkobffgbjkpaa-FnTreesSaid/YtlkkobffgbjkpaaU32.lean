/-
  Lists of numbers of 32 bits: whether two are alike, a copy of one, the marks that are laid into one, whether they lie there.
-/
import Derived.Test.YtlkkobffgbjkpaaKit
import Derived.Test.YtlkkobffgbjkpaaBlk
import Derived.Test.YtlkkobffgbjkpaaLaw
import Derived.Deep.DrawnRows
import Derived.DataElems
namespace Go.Proofs.Ytlkkobffgbjkpaa
open Go.RowKit Go

def u32v (n : Nat) : Value := .int .u32 (n : Int)
/-- A list of numbers that can be read. -/
def RdN (w : World) (v : Value) (xs : List Nat) : Prop :=
  ∃ (A : Option Addr) (cap : Nat), v = .slice A xs.length cap ∧ xs.length ≤ 4611686018427387904 ∧ ∀ i (h : i < xs.length), ∃ a, A = some a ∧ a.block < w.heap.size ∧ w.cell? (a.add i) = some (u32v xs[i])
theorem addr_addb (a : Addr) (n : Nat) : (a.add n).block = a.block := by unfold Addr.add; split <;> rfl
theorem addr_lit (b o n : Nat) : Addr.add ⟨b, o, none⟩ n = ⟨b, o + n, none⟩ := by unfold Addr.add; split <;> simp_all
theorem RdN.keep {w w' : World} {v : Value} {xs : List Nat} (h : RdN w v xs) (hs : w.heap.size ≤ w'.heap.size) (hk : ∀ p : Addr, p.block < w.heap.size → (∃ a, v = .slice (some a) xs.length (match v with | .slice _ _ c => c | _ => 0) ∧ p.block = a.block) → w'.cell? p = w.cell? p) : RdN w' v xs := by
  obtain ⟨A, cap, rfl, hl, hc⟩ := h
  refine ⟨A, cap, rfl, hl, fun i hi => ?_⟩
  obtain ⟨a, rfl, e2, e3⟩ := hc i hi
  exact ⟨a, rfl, by omega, (hk _ (by rw [addr_addb]; exact e2) ⟨a, rfl, addr_addb _ _⟩).trans e3⟩
theorem RdN.below {w w' : World} {v : Value} {xs : List Nat} (h : RdN w v xs) (hb : Below w.heap.size w w') : RdN w' v xs := h.keep hb.size fun _ hp _ => hb.cell hp
theorem RdN.of_own {w : World} {base : Nat} {e : TypeId} {v : Value} {xs : List Nat} (h : w.ownsRow base e 1 v xs.length (xs.map u32v)) (hl : xs.length ≤ 4611686018427387904) : RdN w v xs := by
  rcases h.2 with ⟨rfl, h0⟩ | ⟨g, cap, cur, rfl, hb, hg, hn, hm, hsz, ht⟩
  · refine ⟨none, 0, by rw [h0], hl, fun i hi => by omega⟩
  · refine ⟨_, cap, rfl, hl, fun i hi => ⟨⟨g, 0, none⟩, rfl, (Array.getElem?_eq_some_iff.1 hg).1, ?_⟩⟩
    rw [addr_lit, Nat.zero_add, cell_of_row w g i cur e (0, 0) hg]
    have h1 := congrArg (·[i]?) ht
    simpa [List.getElem?_take, hi] using h1
theorem own_lt {W : World} {base : Nat} {e : TypeId} {size : Nat} {v : Value} {n : Nat} {xs : List Value} (h : W.ownsRow base e size v n xs) : ∀ k, v.ownBlock = some k → base ≤ k := fun k hk => by
  rcases h.2 with ⟨rfl, _⟩ | ⟨g, cap, cur, rfl, h1, _, _⟩
  · simp [Value.ownBlock] at hk
  · obtain rfl : g = k := by simpa [Value.ownBlock] using hk
    exact h1
theorem own_empty (w : World) (e : TypeId) : (w.alloc (.cells #[] e)).ownsRow w.heap.size e 1 (.slice (some ⟨w.heap.size, 0, none⟩) 0 0) 0 [] :=
  ⟨rfl, .inr ⟨w.heap.size, 0, #[], rfl, Nat.le_refl _, heap_alloc_new w _, Nat.le_refl _, Nat.zero_le _, rfl, rfl⟩⟩
/-- A new list of numbers. -/
def NewN (w : World) (xs : List Nat) (e : Ending) (w' : World) : Prop := ∃ v, e = .returned v ∧ w'.ownsRow w.heap.size 144 1 v xs.length (xs.map u32v) ∧ Below w.heap.size w w'
theorem u32_ne {a b : Nat} (h : a ≠ b) : ((a : Int) == (b : Int)) = false := by simp; omega
theorem u32_bne {a b : Nat} (h : a ≠ b) : ((a : Int) != (b : Int)) = true := by simp; omega
theorem u32_beq (a : Nat) : ((a : Int) != (a : Int)) = false := by simp

set_option maxHeartbeats 1000000 in
theorem eqn_any (a b : Value) (xs ys : List Nat) (w : World) (ha : RdN w a xs) (hb : RdN w b ys) :
    Calls Try.prog 79 #[a, b] w fun e w' => e = .returned (.bool (decide (xs = ys))) ∧ ∃ d, w' = w.drewN d := by
  obtain ⟨A, ca, rfl, hla, hca⟩ := ha
  obtain ⟨B, cb, rfl, hlb, hcb⟩ := hb
  have HA := Lib.hid hca
  have HB := Lib.hid hcb
  clear hca hcb
  by_cases hl : xs.length = ys.length
  · have hl' : ((xs.length : Int) != (ys.length : Int)) = false := by simp [hl]
    have HL := Lib.hid hl
    clear hl
    go_enter Try.func79, Try.ntmps79
    go_wp2
    go_loopw [5] (fun vi wr => ∃ i d : Nat, vi = .int .i64 i ∧ i ≤ xs.length ∧ Hid (wr = w.drewN d) ∧ Hid (∀ j (h : j < xs.length), j < i → ys[j]? = some xs[j])) (fun vi _ => xs.length - (intOf vi).toNat)
    case atStart => exact ⟨0, 0, rfl, by omega, by rw [World.drewN_zero]; rfl, fun j _ h => by omega⟩
    case round =>
      obtain ⟨i, d, rfl, hi, HW, HE⟩ := hrel
      by_cases hp : i < xs.length
      · obtain ⟨ga, rfl, -, ha⟩ := HA.out i hp
        obtain ⟨gb, rfl, -, hb⟩ := HB.out i (by have := HL.out; omega)
        have hcA : wr.cell? (ga.add i) = some (.int .u32 (xs[i] : Int)) := by rw [HW.out]; exact ha
        have hcB : wr.cell? (gb.add i) = some (.int .u32 ((ys[i]'(by have := HL.out; omega) : Nat) : Int)) := by rw [HW.out]; exact hb
        have i1 : (0 : Int) ≤ (i : Int) := by omega
        have i2 : (i : Int) < (xs.length : Int) := by omega
        have i3 : (i : Int) < (ys.length : Int) := by have := HL.out; omega
        clear ha hb
        by_cases he : xs[i] = ys[i]'(by have := HL.out; omega)
        · have HE2 : Hid (∀ j (h : j < xs.length), j < i + 1 → ys[j]? = some xs[j]) := Lib.hid fun j hj h2 => by
            rcases Nat.lt_or_ge j i with h3 | h3
            · exact HE.out j hj h3
            · obtain rfl : j = i := by omega
              rw [List.getElem?_eq_getElem (by omega), he]
          rw [← he] at hcB
          clear he
          go_wp2
          go_quiet (fail)
          go_wp2
          go_roundw
          case rel => exact ⟨i + 1, _, by go_num, by omega, by rw [HW.out, World.drewN_drewN]; rfl, HE2.out⟩
          case measure => simp [intOf]; omega
        · have hne := u32_bne he
          have hd : decide (xs = ys) = false := decide_eq_false fun e => he (by simp [e])
          have HD := Lib.hid hd
          clear he hd
          go_wp2
          go_quiet (fail)
          go_wp2
          go_ret
          exact ⟨by rw [HD.out]; rfl, _, by rw [HW.out, World.drewN_drewN]⟩
      · have hd : decide (xs = ys) = true := decide_eq_true (List.ext_getElem HL.out fun j h1 h2 => by
          have := HE.out j h1 (by omega)
          rw [List.getElem?_eq_getElem h2] at this
          exact (Option.some.inj this).symm)
        have HD := Lib.hid hd
        clear hd
        go_wp2
        go_ret
        exact ⟨by rw [HD.out]; rfl, d, HW.out⟩
  · have hl' : ((xs.length : Int) != (ys.length : Int)) = true := by simp; omega
    have e : decide (xs = ys) = false := by simpa using fun e => hl (by rw [e])
    rw [e]
    clear hl e
    go_enter Try.func79, Try.ntmps79
    go_wp2
    go_ret
    exact ⟨rfl, 0, by rw [World.drewN_zero]⟩

set_option maxHeartbeats 1000000 in
theorem heldn_any (v : Value) (xs : List Nat) (k : Nat) (h1 : k ≤ 4194304) (hx : xs.length ≤ 4194304) (w : World) (ha : RdN w v xs) :
    Calls Try.prog 89 #[v, .int .i64 k] w fun e w' => e = .returned (.int .i64 (if xs = (List.range xs.length).map (k + ·) then (k : Int) + xs.length else -1)) ∧ w = w' := by
  obtain ⟨A, ca, rfl, hla, hca⟩ := ha
  have HA := Lib.hid hca
  clear hca hla
  obtain ⟨q, hq⟩ : ∃ q, (if xs = (List.range xs.length).map (k + ·) then (k : Int) + xs.length else -1) = q := ⟨_, rfl⟩
  have HY : Hid ((∀ j (h : j < xs.length), xs[j] = k + j) → q = (k : Int) + xs.length) := Lib.hid fun h => by
    rw [← hq, if_pos]
    exact List.ext_getElem (by simp) fun j h2 h3 => by simpa using h j h2
  have HN : Hid (∀ j (h : j < xs.length), xs[j] ≠ k + j → q = -1) := Lib.hid fun j hj hne => by
    rw [← hq, if_neg]
    intro e
    refine hne ?_
    have : xs[j]? = ((List.range xs.length).map (k + ·))[j]? := by rw [← e]
    rw [List.getElem?_eq_getElem hj] at this
    simpa [hj] using this
  rw [hq]
  clear hq
  go_enter Try.func89, Try.ntmps89
  go_wp2
  go_loop [1, 5] (fun vk vi => ∃ i : Nat, vi = .int .i64 i ∧ vk = .int .i64 ((k + i : Nat) : Int) ∧ i ≤ xs.length ∧ Hid (∀ j (h : j < xs.length), j < i → xs[j] = k + j)) (fun _ vi => xs.length - (intOf vi).toNat)
  case atStart => exact ⟨0, rfl, rfl, by omega, Lib.hid fun j _ h => by omega⟩
  case round =>
    obtain ⟨i, rfl, rfl, hi, HE⟩ := hrel
    by_cases hp : i < xs.length
    · obtain ⟨ga, rfl, -, ha⟩ := HA.out i hp
      have hc : w.cell? (ga.add i) = some (.int .u32 (xs[i] : Int)) := ha
      have i2 : (i : Int) < (xs.length : Int) := by omega
      obtain ⟨x, hxx⟩ : ∃ x, xs[i] = x := ⟨_, rfl⟩
      rw [hxx] at hc
      by_cases he : x = k + i
      · have HE2 : Hid (∀ j (h : j < xs.length), j < i + 1 → xs[j] = k + j) := Lib.hid fun j hj h2 => by
          rcases Nat.lt_or_ge j i with h3 | h3
          · exact HE.out j hj h3
          · obtain rfl : j = i := by omega
            rw [hxx, he]
        have he' : ((x : Int) != ((k : Int) + (i : Int))) = false := by simp; omega
        clear ha hxx he
        go_wp2
        go_round
        case rel => exact ⟨i + 1, by go_num, by go_num, by omega, HE2⟩
        case measure => simp [intOf]; omega
      · have hQ := Lib.hid (HN.out i hp (by rw [hxx]; exact he))
        have he' : ((x : Int) != ((k : Int) + (i : Int))) = true := by simp; omega
        clear ha hxx he
        go_wp2
        go_ret
        exact ⟨by rw [hQ.out]; rfl, rfl⟩
    · have hQ := Lib.hid (HY.out fun j hj => HE.out j hj (by omega))
      obtain rfl : i = xs.length := by omega
      go_wp2
      go_ret
      exact ⟨by rw [hQ.out]; simp, rfl⟩

/-- n marks, from k on. -/
def marksN (k n : Nat) : List Nat := (List.range n).map (k + ·)
theorem marksN_len (k n : Nat) : (marksN k n).length = n := by simp [marksN]
theorem marksN_succ (k i : Nat) : marksN k (i + 1) = marksN k i ++ [k + i] := by unfold marksN; rw [List.range_succ]; simp
theorem marksN_set {xs : List Nat} {k i : Nat} (h : i < xs.length) : ((marksN k i ++ xs.drop i).map u32v).set i (.int .u32 ((k : Int) + (i : Int))) = (marksN k (i + 1) ++ xs.drop (i + 1)).map u32v := by
  have e : Value.int .u32 ((k : Int) + (i : Int)) = u32v (k + i) := by unfold u32v; push_cast; rfl
  rw [e, marksN_succ, List.map_append, List.map_append, List.set_append_right _ _ (by simp [marksN_len]), List.length_map, marksN_len, Nat.sub_self, List.drop_eq_getElem_cons h, List.map_cons, List.set_cons_zero]
  simp
/-- Where marking stands: block g holds i marks, then what it held. -/
structure MarkedN (W wr : World) (g : Nat) (n : Nat) (xs : List Nat) (k i : Nat) (cap : Nat) (cur : Array Value) : Prop where
  blk : Blk wr g 144 cur
  size : cur.size = cap
  take : cur.toList.take n = (marksN k i ++ xs.drop i).map u32v
  grown : W.grownBy wr (some g)
theorem MarkedN.step {W wr : World} {g : Nat} {xs : List Nat} {k i cap : Nat} {cur : Array Value} (h : MarkedN W wr g xs.length xs k i cap cur) (hi : i < xs.length) :
    MarkedN W (wr.setCell ⟨g, i, none⟩ (.int .u32 ((k : Int) + (i : Int)))) g xs.length xs k (i + 1) cap (cur.setIfInBounds i (.int .u32 ((k : Int) + (i : Int)))) := by
  refine ⟨h.blk.put _ _, by simpa using h.size, ?_, only_setCell h.grown (.inl rfl) _⟩
  rw [Array.toList_setIfInBounds, List.take_set, h.take, marksN_set hi]
theorem MarkedN.cell {W wr : World} {g n : Nat} {xs : List Nat} {k i cap : Nat} {cur : Array Value} (h : MarkedN W wr g n xs k i cap cur) (hi : i < cap) : ∃ u, wr.cell? ⟨g, i, none⟩ = some u ∧ wr.frozen? ⟨g, i, none⟩ = false := by
  have hs := h.size
  exact ⟨cur[i]'(by omega), by rw [h.blk.cell, Array.getElem?_eq_getElem (by omega)], h.blk.frozen i⟩

set_option maxHeartbeats 1000000 in
theorem markn_any (base : Nat) (v : Value) (xs : List Nat) (k : Nat) (h1 : k ≤ 4194304) (hx : xs.length ≤ 4194304) (W : World) (hown : W.ownsRow base 144 1 v xs.length (xs.map u32v)) :
    Calls Try.prog 84 #[v, .int .i64 k] W fun e w' => e = .returned (.int .i64 ((k : Int) + xs.length)) ∧ w'.ownsRow base 144 1 v xs.length ((marksN k xs.length).map u32v) ∧ W.grownBy w' v.ownBlock := by
  rcases hown.2 with ⟨rfl, hn0⟩ | ⟨g, cap, cur, rfl, hb, hg, hn, hm, hsz, ht⟩
  · have hxs : xs = [] := List.eq_nil_of_length_eq_zero hn0
    subst hxs
    clear hown
    go_enter Try.func84, Try.ntmps84
    go_wp2
    go_loop [1, 5] (fun vk vi => vk = .int .i64 k ∧ vi = .int .i64 0) (fun _ _ => 0)
    case atStart => exact ⟨rfl, rfl⟩
    case round =>
      obtain ⟨rfl, rfl⟩ := hrel
      go_wp2
      go_ret
      exact ⟨by simp, World.ownsRow_nil _ _ _ _, World.grownBy.refl _ _⟩
  · have hstart : MarkedN W W g xs.length xs k 0 cap cur := ⟨hg, by simpa using hsz, by simpa [marksN] using ht, World.grownBy.refl _ _⟩
    clear hown hsz ht hg
    unfold maxLen at hm
    go_enter Try.func84, Try.ntmps84
    go_wp2
    go_loopw [1, 5] (fun vk vi wr => ∃ (i : Nat) (cur : Array Value), vi = .int .i64 i ∧ vk = .int .i64 ((k + i : Nat) : Int) ∧ i ≤ xs.length ∧ MarkedN W wr g xs.length xs k i cap cur) (fun _ vi _ => xs.length - (intOf vi).toNat)
    case atStart => exact ⟨0, cur, rfl, rfl, by omega, hstart⟩
    case round =>
      obtain ⟨i, cur2, rfl, rfl, hi, hM⟩ := hrel
      clear hstart
      by_cases hp : i < xs.length
      · have i1 : (i : Int) < (xs.length : Int) := by omega
        obtain ⟨u, hcu, hfu⟩ := hM.cell (show i < cap by omega)
        go_wp2
        go_roundw
        case rel => exact ⟨i + 1, _, by go_num, by go_num, by omega, hM.step hp⟩
        case measure => simp [intOf]; omega
      · obtain rfl : i = xs.length := by omega
        go_wp2
        go_ret
        refine ⟨by simp, ⟨by simp [marksN_len], .inr ⟨g, cap, cur2, rfl, hb, hM.blk, hn, by unfold maxLen; omega, by simpa using hM.size, ?_⟩⟩, hM.grown⟩
        have := hM.take
        simpa using this
end Go.Proofs.Ytlkkobffgbjkpaa
