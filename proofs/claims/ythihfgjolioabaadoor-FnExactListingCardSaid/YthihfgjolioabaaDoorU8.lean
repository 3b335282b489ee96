/-
  Lists of bytes of the call's own; a text of them.
-/
import Derived.Test.YthihfgjolioabaaDoorU32
import Derived.Test.YthihfgjolioabaaDoorPackMath
import Derived.Laws.BytesArg
namespace Go.Proofs.YthihfgjolioabaaDoor
open Go.RowKit Go

def u8v (c : UInt8) : Value := .int .u8 (c.toNat : Int)
theorem infoU8 : (Tryd.prog.info? 5).map (fun i => (i.zero, i.size, i.bytes)) = some (some (.int .u8 0), 1, 1) := by kernel_rfl
/-- 'string(b)' of bytes of the call's own. -/
theorem own_string {P : Program} {w : World} {base : Nat} {src dst e : TypeId} {v : Value} {l : List UInt8} (hs : P.underlying src = some (.slice e)) (he : P.underlying e = some (.int .u8)) (hd : P.underlying dst = some .string)
    (h : w.ownsRow base e 1 v l.length (l.map u8v)) : (convert src dst v).run P w = .ok (.string ⟨l.toArray⟩) w := by
  rcases h.2 with ⟨rfl, h0⟩ | ⟨g, cap, cur, rfl, hb, hg, hn, hm, hsz, ht⟩
  · have hl : l = [] := List.eq_nil_of_length_eq_zero h0
    subst hl
    exact run_convert_bytes_nil w src e hs he 0 0 dst hd
  · refine run_convert_bytes_back w src dst e _ _ l hs he hd fun j hj => ?_
    rw [addr_lit, Nat.zero_add, cell_of_row w g j cur e (0, 0) hg]
    have h1 := congrArg (·[j]?) ht
    simpa [List.getElem?_take, hj, u8v] using h1
theorem byteAt_int {k : Nat} (h : k < 48) : letAt (k : Int) = ((byteAt (k : Int)).toNat : Int) := by
  obtain ⟨_, h2, h3⟩ := back_all k h
  unfold byteAt
  rw [UInt8.toNat_ofNat_of_lt' (by show _ < 256; omega)]
  omega
end Go.Proofs.YthihfgjolioabaaDoor
