/-
  Bodies and lists of trees out of a code; whether two lists of ops are the same.
-/
import Derived.Test.YtlkkobffgbjkpaaDrawAny
import Derived.Test.YtlkkobffgbjkpaaFlatI
import Derived.Deep.QuietTactic
namespace Go.Proofs.Ytlkkobffgbjkpaa
open Go.RowKit Go

theorem Grows.rng {xs ys : List (Int × Int)} {ts : List Tr} (h : Grows xs ts ys) : RngO xs → rgL ts ∧ RngO ys := by
  induction h with
  | stop xs h => exact fun hr => ⟨trivial, hr⟩
  | leaf o r ys ts h g ih =>
    intro hr
    have h1 := ih (fun q hq => hr q (List.mem_cons_of_mem _ hq))
    exact ⟨⟨⟨hr o (List.mem_cons_self ..), trivial⟩, h1.1⟩, h1.2⟩
  | nest o r r2 ys kids ts h gk g ih1 ih2 =>
    intro hr
    have h1 := ih1 (fun q hq => hr q (List.mem_cons_of_mem _ hq))
    have h2 := ih2 (fun q hq => h1.2 q (List.mem_cons_of_mem _ hq))
    exact ⟨⟨⟨hr o (List.mem_cons_self ..), h1.1⟩, h2.1⟩, h2.2⟩
theorem TreesOf.rng {xs : List (Int × Int)} {ts : List Tr} (h : TreesOf xs ts) (hr : RngO xs) : rgL ts := by
  rcases h with ⟨-, g⟩ | ⟨-, rfl⟩
  · exact (g.rng hr).1
  · trivial
theorem rgL_app : ∀ {a b : List Tr}, rgL a → rgL b → rgL (a ++ b) := by
  intro a
  induction a with
  | nil => intro b _ hb; exact hb
  | cons t r ih => intro b ha hb; exact ⟨ha.1, ih ha.2 hb⟩
/-- One tree about a list. -/
theorem own_wrap {w : World} {base : Nat} {v : Value} {ts : List Tr} {S : Nat → Prop} {k n : Int} (h : OwnT w base v ts S) (hb : base ≤ w.heap.size) :
    OwnT (w.alloc (.cells #[.int .i64 k, .int .i32 n, v] 83)) base (.slice (some ⟨w.heap.size, 0, none⟩) 1 1) [.mk k n ts] (fun b => S b ∨ b = w.heap.size) := by
  have h2 := h.stay (below_alloc1 w (.cells #[.int .i64 k, .int .i32 n, v] 83))
  refine .mk _ _ _ (fun _ => v) (fun _ => S) ⟨rfl, .inr ⟨w.heap.size, 1, #[.int .i64 k, .int .i32 n, v], rfl, hb, heap_alloc_new w _, Nat.le_refl _, by decide, rfl, rfl⟩⟩ (fun i hi => ?_) (fun b hb2 i hi h3 => ?_) (fun i j b hi hj hij => ?_) (fun b hb2 => ?_) (fun b hb2 => ?_)
  · obtain rfl : i = 0 := by simpa using hi
    exact h2
  · have hb2 : some w.heap.size = some b := hb2
    injection hb2 with hb2
    have := (h.bound b h3).2
    omega
  · simp only [List.length_cons, List.length_nil] at hi hj; omega
  · rcases hb2 with hb2 | ⟨_, _, hb2⟩
    · have hb2 : some w.heap.size = some b := hb2
      injection hb2 with hb2
      exact .inr hb2.symm
    · exact .inl hb2
  · rw [World.size_alloc]
    rcases hb2 with hb2 | hb2
    · have := h.bound b hb2; omega
    · omega
set_option maxHeartbeats 2000000 in
theorem drawtree_any (A : Option Addr) (len cap : Nat) (w : World) (hcode : CodeOk w w.heap.size A len) : Calls Try.prog 10 #[.slice A len cap] w fun e w' => ∃ u xs, e = .returned u ∧ xs.length ≤ 700 ∧ RngO xs ∧ w'.ownsRow w.heap.size 75 2 u xs.length (slv xs) ∧ Below w.heap.size w w' := by
  have HN := Lib.hid (new_any A len cap w hcode)
  clear hcode
  go_enter Try.func10, Try.ntmps10
  go_wp2_with fail
  refine HN.out.mono ?_
  rintro e w1 ⟨g, rfl, hg, hc1, hb1⟩
  have HB := Lib.hid (any_any g w1 hc1)
  have B1 := Lib.hid hb1
  have HG := Lib.hid hg
  clear hc1 hb1 HN hg
  go_wp2_with fail
  refine HB.out.mono ?_
  rintro e w2 ⟨u, xs, rfl, h⟩
  have H := Lib.hid h
  clear h HB
  go_wp2_with fail
  go_ret
  exact ⟨u, xs, rfl, H.out.len, H.out.rng, H.out.row.mono B1.out.size, B1.out.trans (below_of_only H.out.only B1.out.size HG.out)⟩
set_option maxRecDepth 100000 in
set_option maxHeartbeats 8000000 in
theorem drawflat_any (A : Option Addr) (len cap : Nat) (w : World) (hcode : CodeOk w w.heap.size A len) : Calls Try.prog 16 #[.slice A len cap] w fun e w' => ∃ u ts, e = .returned u ∧ RdT w' u ts ∧ rgL ts ∧ sizeL ts ≤ 2000 ∧ Below w.heap.size w w' := by
  obtain ⟨i0, hi0, hz0, hz1, hz2⟩ := info_parts infoTr
  have HN := Lib.hid (new_any A len cap w hcode)
  clear hcode
  go_enter Try.func16, Try.ntmps16
  go_wp2_with fail
  refine HN.out.mono ?_
  rintro e w1 ⟨g, rfl, hg, hc1, hb1⟩
  have HB := Lib.hid (any_any g w1 hc1)
  have B1 := Lib.hid hb1
  have HG := Lib.hid hg
  have hgl := cur_lt hc1
  have HEND : Hid (∀ W, w1.grownBy W (some g) → Below w.heap.size w W) := Lib.hid (fun W h => B1.out.trans (below_of_only h B1.out.size HG.out))
  clear hc1 hb1 HN hg
  go_wp2_with fail
  refine HB.out.mono ?_
  rintro e w2 ⟨u2, xs, rfl, h2⟩
  obtain ⟨ts, hts⟩ := treesOf_any xs
  have HT := Lib.hid (spec_treeof xs h2.rng ts hts u2 w2 (RdS.of_own h2.row (by have := h2.len; omega)))
  have HZ : Hid (sizeL ts ≤ 60) := Lib.hid hts.size
  have HRG := Lib.hid (hts.rng h2.rng)
  have C2 := Lib.hid h2.cur
  have G2 := Lib.hid h2.only
  clear h2 HB hts
  go_wp2_with fail
  refine HT.out.mono ?_
  rintro e w3 ⟨u3, S3, rfl, ho3, hb3⟩
  have O3 := Lib.hid (ho3.mono G2.out.size)
  have C3 := Lib.hid (C2.out.below hb3)
  have G3 := Lib.hid (only_trans G2.out (only_of_below hb3 (some g)))
  have HS := Lib.hid (below_any g 6 (by omega) (by omega) w3 C3.out)
  clear ho3 hb3 HT C2 G2
  go_wp2_with fail
  refine HS.out.mono ?_
  rintro e w4 ⟨s, rfl, ⟨hs0, hs1⟩, hc4, hg4⟩
  have hs2 : s ≤ 5 := by simpa using hs1
  have O4 := Lib.hid (O3.out.kept hg4.size (fun q hq => hg4.block q (O3.out.bound q hq).2 (fun e => by injection e with e; have := (O3.out.bound q hq).1; omega)))
  have C4 := Lib.hid hc4
  have G4 := Lib.hid (only_trans G3.out hg4)
  clear hs1 hc4 hg4 O3 C3 G3 HS
  by_cases h0 : s = 0
  · subst h0
    have HK := Lib.hid (below_any g 10 (by omega) (by omega) w4 C4.out)
    go_wp2_with fail
    refine HK.out.mono ?_
    rintro e w5 ⟨x, rfl, ⟨hx0, hx1⟩, hc5, hg5⟩
    have hx2 : x ≤ 9 := by simpa using hx1
    have O5 := Lib.hid (O4.out.kept hg5.size (fun q hq => hg5.block q (O4.out.bound q hq).2 (fun e => by injection e with e; have := (O4.out.bound q hq).1; omega)))
    have G5 := Lib.hid (only_trans G4.out hg5)
    have HB := Lib.hid (body_any 2 (by omega) g 2 (by omega) (by omega) w5 hc5)
    clear hx1 hc5 hg5 O4 C4 G4 HK
    go_wp2_with fail
    refine HB.out.mono ?_
    rintro e w6 ⟨u6, ys, rfl, h6⟩
    obtain ⟨ks, hks⟩ := treesOf_any ys
    have HT := Lib.hid (spec_treeof ys h6.rng ks hks u6 w6 (RdS.of_own h6.row (by have := h6.len; simp [bndB] at this; omega)))
    have HZK : Hid (sizeL ks ≤ 60) := Lib.hid hks.size
    have HRK := Lib.hid (hks.rng h6.rng)
    have hon := h6.only
    have O6 := Lib.hid (O5.out.kept hon.size (fun q hq => hon.block q (O5.out.bound q hq).2 (fun e => by injection e with e; have := (O5.out.bound q hq).1; omega)))
    have G6 := Lib.hid (only_trans G5.out hon)
    have HSB : Hid (∀ q, S3 q → q < w6.heap.size) := Lib.hid (fun q hq => (O6.out.bound q hq).2)
    clear h6 HB hks hon O5 G5
    go_wp2_with fail
    refine HT.out.mono ?_
    rintro e w7 ⟨kv, S7, rfl, ho7, hb7⟩
    obtain ⟨KA, kc, rfl⟩ := ho7.rd.form
    have O7 := O6.out.stay hb7
    have wx : IntKind.i64.wrap (x - 1) = x - 1 := IntWalk.i64_in _ (by omega)
    obtain ⟨f, bs, P⟩ := O7.parts
    obtain ⟨E, ec, rfl⟩ := own_formS P.row
    have G8 := Lib.hid (only_alloc (only_trans G6.out (only_of_below hb7 (some g))) (.cells #[.int .i64 (x - 1), .int .i32 0, .slice KA ks.length kc] 83))
    have P8 := Lib.hid (P.alloc (.cells #[.int .i64 (x - 1), .int .i32 0, .slice KA ks.length kc] 83))
    have HK8 := Lib.hid ((ho7.mono G6.out.size).stay (below_alloc1 w7 (.cells #[.int .i64 (x - 1), .int .i32 0, .slice KA ks.length kc] 83)))
    have HDIS : Hid (∀ q, S3 q → ¬ S7 q) := Lib.hid (fun q h1 h2 => by have := HSB.out q h1; have := (ho7.bound q h2).1; omega)
    have SRC := Lib.hid (src_three w7 (.int .i64 (x - 1)) (.int .i32 0) (.slice KA ks.length kc))
    have hlen : ts.length ≤ 60 := Nat.le_trans (sizeL_len ts) HZ.out
    clear ho7 hb7 HT O6 O7 P G6 HSB
    go_wp2_with (at_builtin; refine wpList_append_src rfl _ _ 26 rfl w1.heap.size 83 i0 (.agg #[.int .i64 0, .int .i32 0, .slice none 0 0]) 3 40 Try.underlying26 hi0 hz0 hz1 hz2 rfl (by decide) _ ts.length (trv f 0 ts) rfl (P8.out.row) _ 1 [.int .i64 (x - 1), .int .i32 0, .slice KA ks.length kc] rfl SRC.out (by simp [Value.oneCell']) (by unfold maxLen; omega) (by omega) (by have := G8.out.size; omega) ?_; intro v9 w9 ho9 ha9; refine unstop ?_)
    refine Stop.go ?_
    have HO9 := Lib.hid (P8.out.push HK8.out HDIS.out ho9 ha9.out)
    have G9 := Lib.hid (only_app G8.out ha9.out.grown (fun q hq => (World.ownsRow.lt P8.out.row q hq).1))
    clear ho9 ha9 SRC P8 HK8 G8
    go_wp2_with fail
    go_ret
    refine ⟨_, _, rfl, HO9.out.rd, ?_, ?_, HEND.out _ G9.out⟩
    · exact rgL_app HRG.out ⟨⟨by decide, HRK.out⟩, trivial⟩
    · rw [sizeL_app, sizeL_one]
      have := HZ.out
      have := HZK.out
      simp only [Tr.kids]
      omega
  by_cases h1 : s = 1
  · subst h1
    clear h0 hs0 hs2
    go_wp2_with fail
    go_loopw [4, 5] (fun vo vi wr => ∃ (i : Nat) (u : Value) (rs : List Tr) (S : Nat → Prop), vi = .int .i64 i ∧ vo = u ∧ i ≤ 31 ∧ Hid (OwnT wr w1.heap.size u rs S) ∧ Hid (rgL rs) ∧ Hid (sizeL rs ≤ 60 + i) ∧ Hid (CurAt wr g) ∧ Hid (w1.grownBy wr (some g))) (fun _ vi _ => 31 - (intOf vi).toNat)
    case atStart => exact ⟨0, _, ts, S3, rfl, rfl, by omega, O4, HRG, Lib.hid (by have := HZ.out; omega), C4, G4⟩
    case round =>
      obtain ⟨i, u, rs, S, rfl, rfl, hi, OR, HRR, HZR, CR, GR⟩ := hrel
      clear O4 C4 G4 HRG HZ
      have HK := Lib.hid (below_any g 4 (by omega) (by omega) _ CR.out)
      go_wp2_with fail
      refine HK.out.mono ?_
      rintro e w5 ⟨x, rfl, ⟨hx0, hx1⟩, hc5, hg5⟩
      have hx2 : x ≤ 3 := by simpa using hx1
      have wx : IntKind.i64.wrap (28 + x) = 28 + x := IntWalk.i64_in _ (by omega)
      have O5 := Lib.hid (OR.out.kept hg5.size (fun q hq => hg5.block q (OR.out.bound q hq).2 (fun e => by injection e with e; have := (OR.out.bound q hq).1; omega)))
      have G5 := Lib.hid (only_trans GR.out hg5)
      have C5 := Lib.hid hc5
      clear hx1 hc5 hg5 OR GR CR HK
      by_cases hp : (i : Int) < 28 + x
      · obtain ⟨E, ec, rfl⟩ := own_formS (O5.out.parts.choose_spec.choose_spec.row)
        have O6 := Lib.hid (own_wrap (k := 6) (n := 0) O5.out G5.out.size)
        have G6 := Lib.hid (only_alloc G5.out (.cells #[.int .i64 6, .int .i32 0, .slice E rs.length ec] 83))
        have C6 := Lib.hid (C5.out.below (below_alloc1 w5 (.cells #[.int .i64 6, .int .i32 0, .slice E rs.length ec] 83)))
        have HR6 : Hid (rgL [.mk 6 0 rs]) := Lib.hid ⟨⟨by decide, HRR.out⟩, trivial⟩
        have HZ6 : Hid (sizeL [.mk 6 0 rs] ≤ 60 + (i + 1)) := Lib.hid (by rw [sizeL_one]; have := HZR.out; simp only [Tr.kids]; omega)
        clear O5 G5 C5 HRR HZR
        go_wp2_with fail
        go_roundw
        case rel => exact ⟨i + 1, _, _, _, by go_num, rfl, by omega, O6, HR6, HZ6, C6, G6⟩
        case measure => simp [intOf]; omega
      · go_wp2_with fail
        go_ret
        exact ⟨_, rs, rfl, O5.out.rd, HRR.out, by have := HZR.out; omega, HEND.out _ G5.out⟩
  · have q0 : (s == 0) = false := by simpa using h0
    have q1 : (s == 1) = false := by simpa using h1
    clear h0 h1
    go_wp2_with fail
    go_ret
    exact ⟨_, ts, rfl, O4.out.rd, HRG.out, by have := HZ.out; omega, HEND.out _ G4.out⟩
end Go.Proofs.Ytlkkobffgbjkpaa
