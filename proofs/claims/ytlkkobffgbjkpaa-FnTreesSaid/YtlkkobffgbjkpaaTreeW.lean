/-
  Lists of trees: whether two are alike, the marks that are laid into one, whether they lie there.
-/
import Derived.Test.YtlkkobffgbjkpaaTrees
import Derived.Test.YtlkkobffgbjkpaaPrimName
import Derived.Test.YtlkkobffgbjkpaaStackOp
import Derived.Deep.RegionHeld3
import Derived.Handy
import Derived.IntWalk
namespace Go.Proofs.Ytlkkobffgbjkpaa
open Go.RowKit Go

/-- Only blocks of S have changed. -/
structure ChgS (S : Nat → Prop) (w w' : World) : Prop where
  os : w'.os = w.os
  tape : w'.tape = w.tape
  output : w'.output = w.output
  size : w.heap.size ≤ w'.heap.size
  block : ∀ g, g < w.heap.size → ¬ S g → w'.heap[g]? = w.heap[g]?
theorem ChgS.refl (S : Nat → Prop) (w : World) : ChgS S w w := ⟨rfl, rfl, rfl, Nat.le_refl _, fun _ _ _ => rfl⟩
theorem ChgS.trans {S : Nat → Prop} {a b c : World} (h : ChgS S a b) (k : ChgS S b c) : ChgS S a c :=
  ⟨k.os.trans h.os, k.tape.trans h.tape, k.output.trans h.output, Nat.le_trans h.size k.size, fun g hg hn => (k.block g (Nat.lt_of_lt_of_le hg h.size) hn).trans (h.block g hg hn)⟩
theorem ChgS.mono {S S2 : Nat → Prop} {a b : World} (h : ChgS S a b) (hs : ∀ g, S g → S2 g) : ChgS S2 a b :=
  ⟨h.os, h.tape, h.output, h.size, fun g hg hn => h.block g hg (fun e => hn (hs g e))⟩
theorem ChgS.below {S : Nat → Prop} {a b : World} {B : Nat} (h : ChgS S a b) (hs : ∀ g, S g → B ≤ g) (hB : B ≤ a.heap.size) : Below B a b :=
  ⟨h.os, h.tape, h.output, h.size, fun g hg => h.block g (by omega) (fun e => by have := hs g e; omega)⟩
theorem ChgS.of_below {S : Nat → Prop} {a b : World} (h : Below a.heap.size a b) : ChgS S a b := ⟨h.os, h.tape, h.output, h.size, fun g hg _ => h.block g hg⟩
theorem trv_mid (f : Nat → Value) (i0 : Nat) {xs : List Tr} {i : Nat} (h : i < xs.length) (K N : Int) (c : List Tr) : ((trv f i0 xs).set (i * 3) (.int .i64 K)).set (i * 3 + 1) (.int .i32 N) = trv f i0 (xs.set i (.mk K N c)) := by
  induction xs generalizing i i0 with
  | nil => simp at h
  | cons s r ih =>
    cases i with
    | zero => simp [trv, Tr.k, Tr.n]
    | succ i =>
      have := ih (i0 + 1) (i := i) (by simpa using h)
      rw [show (i + 1) * 3 = i * 3 + 3 by omega, show i * 3 + 3 + 1 = i * 3 + 1 + 3 by omega]
      simpa [trv] using this
theorem PartsT.mark {wr w2 w3 : World} {base g cap : Nat} {xs c2 : List Tr} {S : Nat → Prop} {f : Nat → Value} {bs : Nat → Nat → Prop} {i : Nat} {K N : Int} (P : PartsT wr base (.slice (some ⟨g, 0, none⟩) xs.length cap) xs S f bs) (hi : i < xs.length)
    (hr : w2.ownsRow base 83 3 (.slice (some ⟨g, 0, none⟩) xs.length cap) xs.length (trv f 0 (xs.set i (.mk K N c2)))) (hg : wr.grownBy w2 (some g)) (ho : OwnT w3 base (f i) c2 (bs i)) (hc : ChgS (bs i) w2 w3) :
    PartsT w3 base (.slice (some ⟨g, 0, none⟩) xs.length cap) (xs.set i (.mk K N c2)) S f bs ∧ ChgS S wr w3 := by
  have hgo : (Value.slice (some ⟨g, 0, none⟩) xs.length cap).ownBlock = some g := by simp [Value.ownBlock]
  have hlt : g < w2.heap.size := (World.ownsRow.lt hr g hgo).2
  have hSg : S g := P.sub g (.inl hgo)
  have hSi : ∀ b, bs i b → S b := fun b hb => P.sub b (.inr ⟨i, hi, hb⟩)
  have hz := hg.size
  refine ⟨⟨?_, fun j hj => ?_, fun b hb j hj => P.d1 b hb j (by simpa using hj), fun j l b hj hl => P.d2 j l b (by simpa using hj) (by simpa using hl), fun b hb => P.sub b ?_, fun b hb => ⟨(P.bound b hb).1, by have := (P.bound b hb).2; have := hc.size; omega⟩⟩, ?_⟩
  · rw [List.length_set]
    exact row_same hr (fun b hb => by
      have hb' := hb
      rw [hgo] at hb'
      injection hb' with hb'
      subst hb'
      exact hc.block g hlt (P.d1 g hb i hi))
  · have hj' : j < xs.length := by simpa using hj
    by_cases hij : i = j
    · subst hij
      simp only [List.getElem_set_self, Tr.kids]
      exact ho
    · simp only [List.getElem_set_ne hij]
      refine ((P.kids j hj').kept hz (fun b hb => ?_)).kept hc.size (fun b hb => ?_)
      · exact hg.block b (P.bound b (P.sub b (.inr ⟨j, hj', hb⟩))).2 (fun e => by injection e with e; subst e; exact P.d1 _ hgo j hj' hb)
      · exact hc.block b (by have := (P.bound b (P.sub b (.inr ⟨j, hj', hb⟩))).2; omega) (fun e => P.d2 j i b hj' hi (fun e2 => hij e2.symm) hb e)
  · rcases hb with hb | ⟨j, hj, hb⟩
    · exact .inl hb
    · exact .inr ⟨j, by simpa using hj, hb⟩
  · refine ChgS.trans (b := w2) ⟨hg.os, hg.tape, hg.output, hz, fun b hb hn => hg.block b hb (fun e => by injection e with e; subst e; exact hn hSg)⟩ (hc.mono hSi)
set_option maxHeartbeats 2000000 in
theorem eq_tree (kids : List Tr) (ih : ∀ a b W, RdT W a kids → RdT W b kids → Calls Try.prog 27 #[a, b] W fun e w' => e = .returned (.bool true) ∧ Below W.heap.size W w')
    (k n : Int) (B1 B2 : Option Addr) (m b1 b2 : Nat) (w : World) (h1 : RdT w (.slice B1 m b1) kids) (h2 : RdT w (.slice B2 m b2) kids) : Calls Try.prog 60 #[.agg #[.int .i64 k, .int .i32 n, .slice B1 m b1], .agg #[.int .i64 k, .int .i32 n, .slice B2 m b2]] w fun e w' => e = .returned (.bool true) ∧ Below w.heap.size w w' := by
  have hbx : Below w.heap.size w ((w.alloc (.cells #[.int .i64 k, .int .i32 n, .slice B1 m b1] 83)).alloc (.cells #[.int .i64 k, .int .i32 n, .slice B2 m b2] 83)) := (below_alloc1 w _).alloc (below_alloc1 w _).size _
  have HBX := Lib.hid hbx
  have HC := Lib.hid (fun W (h : Below w.heap.size w W) => ih (.slice B1 m b1) (.slice B2 m b2) W (h1.stay h) (h2.stay h))
  have q0 : (k != k) = false := by simp
  have q1 : (n != n) = false := by simp
  clear hbx h1 h2 ih
  go_enter Try.func60, Try.ntmps60
  go_wp2_with fail
  refine (HC.out _ HBX.out).mono ?_
  rintro e w2 ⟨rfl, hb2⟩
  have HB2 := Lib.hid (HBX.out.trans (hb2.mono HBX.out.size))
  clear hb2 HBX HC
  go_wp2_with fail
  go_ret
  exact ⟨rfl, HB2.out⟩
set_option maxHeartbeats 4000000 in
theorem eqT_all : ∀ (M : Nat) (ts : List Tr), sizeL ts < M → sizeL ts ≤ 2000000 → ∀ (a b : Value) (w : World), RdT w a ts → RdT w b ts →
    Calls Try.prog 27 #[a, b] w fun e w' => e = .returned (.bool true) ∧ Below w.heap.size w w' := by
  intro M
  induction M with
  | zero => intro ts h; omega
  | succ M ih =>
    intro ts hM hz a b w ha hb
    have hlN : ts.length ≤ 2000000 := Nat.le_trans (sizeL_len ts) hz
    obtain ⟨A, ca, rfl⟩ := ha.form
    obtain ⟨B, cb, rfl⟩ := hb.form
    have HA := Lib.hid (fun W (h : Below w.heap.size w W) => ha.stay h)
    have HB := Lib.hid (fun W (h : Below w.heap.size w W) => hb.stay h)
    have HIH := Lib.hid (fun i (hi : i < ts.length) => ih ts[i].kids (by have := sizeL_get hi; omega) (by have := sizeL_get hi; omega))
    clear ha hb ih hM hz
    have hl' : ((ts.length : Int) != (ts.length : Int)) = false := by simp
    go_enter Try.func27, Try.ntmps27
    go_wp2
    go_loopw [5] (fun vi wr => ∃ i : Nat, vi = .int .i64 i ∧ i ≤ ts.length ∧ Hid (Below w.heap.size w wr)) (fun vi _ => ts.length - (intOf vi).toNat)
    case atStart => exact ⟨0, rfl, by omega, Lib.hid (Below.refl _ _)⟩
    case round =>
      obtain ⟨i, rfl, hi, HW⟩ := hrel
      by_cases hp : i < ts.length
      · obtain ⟨a, B1, m1, c1, rfl, la, p0, p1, p2, r1, e1⟩ := (HA.out wr HW.out).item hp
        obtain ⟨b, B2, m2, c2, rfl, lb, q0, q1, q2, r2, e2⟩ := (HB.out wr HW.out).item hp
        have HIC := Lib.hid (HIH.out i hp)
        obtain ⟨x, hx⟩ : ∃ x, ts[i] = x := ⟨_, rfl⟩
        obtain ⟨k, n, kids⟩ := x
        rw [hx] at p0 p1 q0 q1 r1 r2 e1 e2 HIC
        simp only [Tr.k, Tr.n, Tr.kids] at p0 p1 q0 q1 r1 r2 e1 e2 HIC
        obtain rfl : m1 = m2 := e1.trans e2.symm
        have R1 := Lib.hid (fun W (h : Below wr.heap.size wr W) => r1.stay h)
        have R2 := Lib.hid (fun W (h : Below wr.heap.size wr W) => r2.stay h)
        have LA : Hid ((a.add (i * 3)).block < wr.heap.size) := Lib.hid (by rw [addr_addb]; exact la)
        have LB : Hid ((b.add (i * 3)).block < wr.heap.size) := Lib.hid (by rw [addr_addb]; exact lb)
        have i1 : (0 : Int) ≤ (i : Int) := by omega
        have i2 : (i : Int) < (ts.length : Int) := by omega
        clear hx la lb r1 r2 e1 e2
        go_wp2_with fail
        go_region_held3 (fun w' => w'.cell? (a.add (i * 3)) = some (.int .i64 k) ∧ w'.cell? ⟨(a.add (i * 3)).block, (a.add (i * 3)).off + 1, none⟩ = some (.int .i32 n) ∧ w'.cell? ⟨(a.add (i * 3)).block, (a.add (i * 3)).off + 2, none⟩ = some (.slice B1 m1 c1) ∧ w'.cell? (b.add (i * 3)) = some (.int .i64 k) ∧ w'.cell? ⟨(b.add (i * 3)).block, (b.add (i * 3)).off + 1, none⟩ = some (.int .i32 n) ∧ w'.cell? ⟨(b.add (i * 3)).block, (b.add (i * 3)).off + 2, none⟩ = some (.slice B2 m1 c2)) (first | exact ⟨p0, p1, p2, q0, q1, q2⟩ | go_keep | exact ⟨(hbV.cell LA.out).trans p0, (hbV.cell (p := ⟨(a.add (i * 3)).block, (a.add (i * 3)).off + 1, none⟩) LA.out).trans p1, (hbV.cell (p := ⟨(a.add (i * 3)).block, (a.add (i * 3)).off + 2, none⟩) LA.out).trans p2, (hbV.cell LB.out).trans q0, (hbV.cell (p := ⟨(b.add (i * 3)).block, (b.add (i * 3)).off + 1, none⟩) LB.out).trans q1, (hbV.cell (p := ⟨(b.add (i * 3)).block, (b.add (i * 3)).off + 2, none⟩) LB.out).trans q2⟩) ((go_at_call 60; refine (eq_tree kids HIC.out k n B1 B2 m1 c1 c2 _ (by first | exact R1.out _ (Below.refl _ _) | exact R1.out _ (Below.refl _ _).drew) (by first | exact R2.out _ (Below.refl _ _) | exact R2.out _ (Below.refl _ _).drew)).mono ?_; rintro e V ⟨rfl, hbV⟩))
        have HW2 := Lib.hid (HW.out.trans (((Below.refl wr.heap.size wr).drew.trans hbV).mono HW.out.size))
        clear hbV HW p0 p1 p2 q0 q1 q2 R1 R2
        go_wp2_with fail
        go_roundw
        case rel => exact ⟨i + 1, by go_num, by omega, HW2⟩
        case measure => simp [intOf]; omega
      · go_wp2
        go_ret
        exact ⟨rfl, HW.out⟩
/-- Two lists of the same trees are alike. -/
theorem eqT_same (ts : List Tr) (hz : sizeL ts ≤ 2000000) (a b : Value) (w : World) (ha : RdT w a ts) (hb : RdT w b ts) : Calls Try.prog 27 #[a, b] w fun e w' => e = .returned (.bool true) ∧ Below w.heap.size w w' := eqT_all (sizeL ts + 1) ts (by omega) hz a b w ha hb
set_option maxHeartbeats 4000000 in
theorem heldT_all : ∀ (M : Nat) (ts : List Tr), sizeL ts < M → ∀ (k : Nat), k + 2 * sizeL ts ≤ 4000000 → ∀ (v : Value) (w : World), RdT w v (markL ts k) →
    Calls Try.prog 30 #[v, .int .i64 k] w fun e w' => e = .returned (.int .i64 ((k + 2 * sizeL ts : Nat) : Int)) ∧ Below w.heap.size w w' := by
  intro M
  induction M with
  | zero => intro ts h; omega
  | succ M ih =>
    intro ts hM k hk v w hr
    obtain ⟨A, ca, rfl⟩ := hr.form
    rw [markL_len] at hr ⊢
    have HR := Lib.hid (fun W (h : Below w.heap.size w W) => hr.stay h)
    have HIH := Lib.hid (fun i (hi : i < ts.length) => ih ts[i].kids (by have := sizeL_get hi; omega))
    have HSZ := Lib.hid (fun i (hi : i < ts.length) => sizeL_get hi)
    have HTK := Lib.hid (fun i (hi : i < ts.length) => sizeL_take_succ hi)
    have HMG := Lib.hid (fun i (hi : i < ts.length) => markL_get (k := k) hi)
    have HALL : Hid (sizeL (ts.take ts.length) = sizeL ts) := Lib.hid (by rw [List.take_length])
    have HLN := Lib.hid (sizeL_len ts)
    obtain ⟨Z, hZ⟩ : ∃ Z, sizeL ts = Z := ⟨_, rfl⟩
    rw [hZ] at hk HSZ HALL HLN ⊢
    clear hr ih hM hZ
    have hlN : ts.length ≤ 4000000 := by have := HLN.out; omega
    go_enter Try.func30, Try.ntmps30
    go_wp2
    go_loopw [1, 5] (fun vk vi wr => ∃ i q : Nat, vi = .int .i64 i ∧ vk = .int .i64 q ∧ i ≤ ts.length ∧ Hid (q = k + 2 * sizeL (ts.take i)) ∧ Hid (Below w.heap.size w wr)) (fun _ vi _ => ts.length - (intOf vi).toNat)
    case atStart => exact ⟨0, k, rfl, rfl, by omega, Lib.hid (by simp [sizeL]), Lib.hid (Below.refl _ _)⟩
    case round =>
      obtain ⟨i, q, rfl, rfl, hi, HQ, HW⟩ := hrel
      by_cases hp : i < ts.length
      · obtain ⟨a, B1, m1, c1, rfl, la, p0, p1, p2, r1, e1⟩ := (HR.out wr HW.out).item (i := i) (by rw [markL_len]; exact hp)
        rw [HMG.out i hp, ← HQ.out] at p0 p1 r1 e1
        rw [markT_eq] at p0 p1 r1 e1
        simp only [Tr.k, Tr.n, Tr.kids] at p0 p1 r1 e1
        have hsz := HSZ.out i hp
        have hq := HQ.out
        have HC := Lib.hid (HIH.out i hp (q + 2) (by omega) _ wr r1)
        have HQ2 : Hid (q + 2 + 2 * sizeL ts[i].kids = k + 2 * sizeL (ts.take (i + 1))) := Lib.hid (by rw [HTK.out i hp]; omega)
        have hq3 : q + 2 + 2 * sizeL ts[i].kids ≤ 4000000 := by omega
        obtain ⟨Q, hQ⟩ : ∃ Q, q + 2 + 2 * sizeL ts[i].kids = Q := ⟨_, rfl⟩
        rw [hQ] at HC HQ2 hq3
        have hq4 : q ≤ 4000000 := by omega
        have i1 : (0 : Int) ≤ (i : Int) := by omega
        have i2 : (i : Int) < (ts.length : Int) := by omega
        have w1 : IntKind.i32.wrap ((q : Int) + 1) = (q : Int) + 1 := IntWalk.i32_in _ (by omega)
        have w2 : (((q + 1 : Nat) : Int)) = (q : Int) + 1 := by omega
        have w3 : (((q + 2 : Nat) : Int)) = (q : Int) + 1 + 1 := by omega
        rw [w2] at p1
        rw [w3] at HC
        have z0 : ¬ (Q : Int) < 0 := by omega
        clear hsz hq r1 e1 hQ la w2 w3 HSZ HTK HMG HIH
        go_wp2_with fail
        refine HC.out.mono ?_
        rintro e w4 ⟨rfl, hb4⟩
        have HW4 := Lib.hid (HW.out.trans (hb4.mono HW.out.size))
        clear hb4 HW HC p0 p1 p2
        go_wp2_with fail
        go_roundw
        case rel => exact ⟨i + 1, Q, by go_num, rfl, by omega, HQ2, HW4⟩
        case measure => simp [intOf]; omega
      · obtain rfl : i = ts.length := by omega
        have HE : Hid (q = k + 2 * Z) := Lib.hid (by rw [HQ.out, HALL.out])
        clear HQ hi hp
        have hp : ¬ (ts.length : Int) < (ts.length : Int) := by omega
        go_wp2_with fail
        go_ret
        exact ⟨by show Ending.returned (.int .i64 (q : Int)) = _; rw [show (q : Int) = (k : Int) + 2 * (Z : Int) by have := HE.out; omega], HW.out⟩
/-- The marks that lie in a list of trees are found there. -/
theorem heldT_any (ts : List Tr) (k : Nat) (hk : k + 2 * sizeL ts ≤ 4000000) (v : Value) (w : World) (hr : RdT w v (markL ts k)) : Calls Try.prog 30 #[v, .int .i64 k] w fun e w' => e = .returned (.int .i64 ((k + 2 * sizeL ts : Nat) : Int)) ∧ Below w.heap.size w w' := heldT_all (sizeL ts + 1) ts (by omega) k hk v w hr
set_option maxRecDepth 100000 in
set_option maxHeartbeats 8000000 in
theorem markT_all : ∀ (M : Nat) (ts : List Tr), sizeL ts < M → ∀ (k : Nat), k + 2 * sizeL ts ≤ 4000000 → ∀ (base : Nat) (v : Value) (S : Nat → Prop) (w : World), OwnT w base v ts S →
    Calls Try.prog 29 #[v, .int .i64 k] w fun e w' => e = .returned (.int .i64 ((k + 2 * sizeL ts : Nat) : Int)) ∧ OwnT w' base v (markL ts k) S ∧ ChgS S w w' := by
  intro M
  induction M with
  | zero => intro ts h; omega
  | succ M ih =>
    intro ts hM k hk base v S w ho
    obtain ⟨f, bs, P⟩ := ho.parts
    have HIH := Lib.hid (fun i (hi : i < ts.length) => ih ts[i].kids (by have := sizeL_get hi; omega))
    have HSZ := Lib.hid (fun i (hi : i < ts.length) => sizeL_get hi)
    have HTK := Lib.hid (fun i (hi : i < ts.length) => sizeL_take_succ hi)
    have HALL : Hid (sizeL (ts.take ts.length) = sizeL ts) := Lib.hid (by rw [List.take_length])
    have HLN := Lib.hid (sizeL_len ts)
    rcases P.row.2 with ⟨rfl, hn0⟩ | ⟨g, cap, cur, rfl, -⟩
    · have hts : ts = [] := List.eq_nil_of_length_eq_zero hn0
      subst hts
      have HO : Hid (OwnT w base (.slice none 0 0) (markL [] k) S) := Lib.hid (by simpa [markL] using ho)
      clear P ho ih hM hn0 HIH HSZ HTK HALL HLN
      go_enter Try.func29, Try.ntmps29
      go_wp2
      go_loop [1, 5] (fun vk vi => vk = .int .i64 k ∧ vi = .int .i64 0) (fun _ _ => 0)
      case atStart => exact ⟨rfl, rfl⟩
      case round =>
        obtain ⟨rfl, rfl⟩ := hrel
        go_wp2
        go_ret
        exact ⟨by simp [sizeL], HO.out, ChgS.refl _ _⟩
    · obtain ⟨Z, hZ⟩ : ∃ Z, sizeL ts = Z := ⟨_, rfl⟩
      rw [hZ] at hk HSZ HALL HLN ⊢
      have hlN : ts.length ≤ 4000000 := by have := HLN.out; omega
      have HP0 : Hid (PartsT w base (.slice (some ⟨g, 0, none⟩) ts.length cap) (halfL k 0 ts) S f bs) := Lib.hid (by rw [halfL_zero]; exact P)
      clear ho ih hM hZ P
      go_enter Try.func29, Try.ntmps29
      go_wp2_with fail
      go_loopw [1, 5] (fun vk vi wr => ∃ i q : Nat, vi = .int .i64 i ∧ vk = .int .i64 q ∧ i ≤ ts.length ∧ Hid (q = k + 2 * sizeL (ts.take i)) ∧ Hid (PartsT wr base (.slice (some ⟨g, 0, none⟩) ts.length cap) (halfL k i ts) S f bs) ∧ Hid (ChgS S w wr)) (fun _ vi _ => ts.length - (intOf vi).toNat)
      case atStart => exact ⟨0, k, rfl, rfl, by omega, Lib.hid (by simp [sizeL]), HP0, Lib.hid (ChgS.refl _ _)⟩
      case round =>
        obtain ⟨i, q, rfl, rfl, hi, HQ, HP, HW⟩ := hrel
        clear HP0
        by_cases hp : i < ts.length
        · have hl := halfL_len k i ts hi
          have hih : i < (halfL k i ts).length := by omega
          have hge := halfL_get_ge (k := k) (Nat.le_refl i) hi hih hp
          have row := HP.out.row
          rw [hl] at row
          have t3 := trv_get (f := f) (i0 := 0) hih
          rw [Nat.zero_add] at t3
          have hki := HP.out.kids i hih
          rw [hge] at hki
          obtain ⟨B1, c1, hf⟩ := hki.rd.form
          obtain ⟨u0, c0⟩ : ∃ u, wr.cell? ⟨g, i * 3, none⟩ = some u := ⟨_, (row.cellAt (i * 3) (by omega)).trans t3.1⟩
          obtain ⟨u1, c1'⟩ : ∃ u, wr.cell? ⟨g, i * 3 + 1, none⟩ = some u := ⟨_, (row.cellAt (i * 3 + 1) (by omega)).trans t3.2.1⟩
          have f0 := row.frozenAt (i * 3)
          have f1 := row.frozenAt (i * 3 + 1)
          have s1 := row.stored (i * 3) (.int .i64 (q : Int))
          have s2 := s1.1.stored (i * 3 + 1) (.int .i32 ((q : Int) + 1))
          have hs := s2.1
          rw [trv_mid f 0 hih (q : Int) ((q : Int) + 1) (markL ts[i].kids (q + 2))] at hs
          have hsz := HSZ.out i hp
          have hq := HQ.out
          obtain ⟨W2, hW2⟩ : ∃ W, W = (wr.setCell ⟨g, i * 3, none⟩ (.int .i64 (q : Int))).setCell ⟨g, i * 3 + 1, none⟩ (.int .i32 ((q : Int) + 1)) := ⟨_, rfl⟩
          have hg2 : wr.grownBy W2 (some g) := by rw [hW2]; exact only_trans s1.2 s2.2
          rw [← hW2] at hs
          have c2 : wr.cell? ⟨g, i * 3 + 2, none⟩ = some (.slice B1 ts[i].kids.length c1) := by
            rw [row.cellAt (i * 3 + 2) (by omega), t3.2.2, hf]
          have hk2 : OwnT W2 base (f i) ts[i].kids (bs i) := hki.kept hg2.size (fun b hb => hg2.block b (HP.out.bound b (HP.out.sub b (.inr ⟨i, hih, hb⟩))).2 (fun e => by
            injection e with e
            subst e
            exact HP.out.d1 _ (by simp [Value.ownBlock]) i hih hb))
          have HC := HIH.out i hp (q + 2) (by omega) base (f i) (bs i) W2 hk2
          rw [hf] at HC
          have HQ2 : Hid (q + 2 + 2 * sizeL ts[i].kids = k + 2 * sizeL (ts.take (i + 1))) := Lib.hid (by rw [HTK.out i hp]; omega)
          have HE : Hid (halfL k (i + 1) ts = (halfL k i ts).set i (.mk (q : Int) ((q : Int) + 1) (markL ts[i].kids (q + 2)))) := Lib.hid (by rw [halfL_succ hp, ← HQ.out, markT_eq]; rfl)
          have HPM : Hid (∀ w3, OwnT w3 base (.slice B1 ts[i].kids.length c1) (markL ts[i].kids (q + 2)) (bs i) → ChgS (bs i) W2 w3 → PartsT w3 base (.slice (some ⟨g, 0, none⟩) ts.length cap) (halfL k (i + 1) ts) S f bs ∧ ChgS S wr w3) := Lib.hid (fun w3 h1 h2 => by
            have P := HP.out
            rw [HE.out]
            rw [← hl] at hs P ⊢
            exact P.mark hih hs hg2 (by rw [hf]; exact h1) h2)
          have hq3 : q + 2 + 2 * sizeL ts[i].kids ≤ 4000000 := by omega
          obtain ⟨Q, hQ⟩ : ∃ Q, q + 2 + 2 * sizeL ts[i].kids = Q := ⟨_, rfl⟩
          rw [hQ] at HC HQ2 hq3
          have hq4 : q ≤ 4000000 := by omega
          have i1 : (0 : Int) ≤ (i : Int) := by omega
          have i2 : (i : Int) < (ts.length : Int) := by omega
          have w1 : IntKind.i32.wrap ((q : Int) + 1) = (q : Int) + 1 := IntWalk.i32_in _ (by omega)
          have w3 : (((q + 2 : Nat) : Int)) = (q : Int) + 1 + 1 := by omega
          rw [w3] at HC
          have HC2 := Lib.hid HC
          have HW2 := Lib.hid hW2
          obtain ⟨kl, hkl⟩ : ∃ kl, ts[i].kids.length = kl := ⟨_, rfl⟩
          rw [hkl] at HC2 HPM c2
          clear hl hih hge row t3 hki hf s1 s2 hs hsz hq hg2 hk2 HC HE hQ w3 HSZ HTK HIH HP hkl hW2
          go_wp2_with fail
          rw [← HW2.out]
          refine HC2.out.mono ?_
          rintro e w4 ⟨rfl, ho4, hc4⟩
          obtain ⟨hp4, hch⟩ := HPM.out w4 ho4 hc4
          have HP4 := Lib.hid hp4
          have HW4 := Lib.hid (HW.out.trans hch)
          clear ho4 hc4 hp4 hch HPM HC2 HW2 HW c0 c1' c2 f0 f1 w1
          go_wp2_with fail
          go_roundw
          case rel => exact ⟨i + 1, Q, by go_num, rfl, by omega, HQ2, HP4, HW4⟩
          case measure => simp [intOf]; omega
        · obtain rfl : i = ts.length := by omega
          have HE : Hid (q = k + 2 * Z) := Lib.hid (by rw [HQ.out, HALL.out])
          have HO := Lib.hid HP.out.own
          rw [halfL_all] at HO
          clear HQ hi hp HP
          have hp : ¬ (ts.length : Int) < (ts.length : Int) := by omega
          go_wp2_with fail
          go_ret
          exact ⟨by show Ending.returned (.int .i64 (q : Int)) = _; rw [show (q : Int) = (k : Int) + 2 * (Z : Int) by have := HE.out; omega], HO.out, HW.out⟩
/-- Marks laid into a list of trees that is a call's own. -/
theorem markT_any (ts : List Tr) (k : Nat) (hk : k + 2 * sizeL ts ≤ 4000000) (base : Nat) (v : Value) (S : Nat → Prop) (w : World) (ho : OwnT w base v ts S) : Calls Try.prog 29 #[v, .int .i64 k] w fun e w' => e = .returned (.int .i64 ((k + 2 * sizeL ts : Nat) : Int)) ∧ OwnT w' base v (markL ts k) S ∧ ChgS S w w' := markT_all (sizeL ts + 1) ts (by omega) k hk base v S w ho
end Go.Proofs.Ytlkkobffgbjkpaa
