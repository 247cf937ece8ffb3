/- What the library's package variables hold, for the walks of numbers and of cut texts; a start that meets the condition. -/
import Derived.Test.YtknpbeekdjghgaaDoorRows
import Derived.Test.YtknpbeekdjghgaaDoorAid
import Derived.Test.YtknpbeekdjghgaaDoorOpen
import Derived.Lib.LaidTab
import Derived.Stop.LaidErr
import Derived.Lib.ItoaNum
import Derived.WalkSmall
import Derived.LaidMore
import Derived.Stop.Joined
import Derived.OpenShut
import Derived.ProofKit
import Derived.Shelf.Vars
namespace Go.Proofs.YtknpbeekdjghgaaDoor.nm
open Go.ChangeShapes Go.WideShapes Go.ChangeAt Go.RowKit Go.Proofs.Aid
theorem gP : Tryd.prog.globalNamed "internal/strconv.uint64pow10" = some 3 := by kernel_rfl
theorem gPType : (Tryd.prog.globals[3]?).map (·.type) = some 114 := by kernel_rfl
theorem gS : Tryd.prog.globalNamed "strconv.ErrSyntax" = some 0 := by kernel_rfl
theorem gSType : (Tryd.prog.globals[0]?).map (·.type) = some 65 := by kernel_rfl
theorem gR : Tryd.prog.globalNamed "strconv.ErrRange" = some 1 := by kernel_rfl
theorem gRType : (Tryd.prog.globals[1]?).map (·.type) = some 65 := by kernel_rfl
theorem star : "*" ++ "errors.errorString" = "*errors.errorString" := by decide
theorem rowE (u : TypeId) (h : Tryd.prog.typeName? 3 u = some "*errors.errorString") : u = 109 :=
  typeName_ptr_named (nm := "errors.errorString") (by rw [star]; kernel_rfl) (by kernel_rfl) (by decide) u (by rw [star]; exact h)
theorem var_lt {P : Program} {w : World} {n : String} {g : Nat} {cs : Array Value} (hg : P.globalNamed n = some g) (h : w.var? P n = some cs) : g < w.heap.size := by
  unfold World.var? at h
  simp only [hg, Option.bind_some] at h
  rcases Nat.lt_or_ge g w.heap.size with h' | h'
  · exact h'
  · rw [Array.getElem?_eq_none h'] at h; simp at h
/-- The variables' blocks lie below. -/
structure Over (B : Nat) : Prop where
  p : 3 < B
  s : 0 < B
  r : 1 < B
theorem Over.mono {B B' : Nat} (h : Over B) (hB : B ≤ B') : Over B' := by
  constructor
  · exact Nat.lt_of_lt_of_le h.p hB
  · exact Nat.lt_of_lt_of_le h.s hB
  · exact Nat.lt_of_lt_of_le h.r hB
/-- What the walks read. -/
structure Lets (w : World) : Prop where
  low : Over w.heap.size
  tab : Lib.TabIs Tryd.prog w "internal/strconv.uint64pow10" .u64 Lib.pow10Tab
  syn : ∃ tp p, w.var? Tryd.prog "strconv.ErrSyntax" = some #[.iface tp p]
  ran : ∃ tp p, w.var? Tryd.prog "strconv.ErrRange" = some #[.iface tp p]
theorem Lets.below {w w' : World} {B : Nat} (h : Lets w) (hb : Below B w w') (hB : Over B) : Lets w' := by
  constructor
  · exact h.low.mono hb.size
  · exact var?_below hb gP hB.p h.tab
  · obtain ⟨tp, p, e⟩ := h.syn
    exact ⟨tp, p, var?_below hb gS hB.s e⟩
  · obtain ⟨tp, p, e⟩ := h.ran
    exact ⟨tp, p, var?_below hb gR hB.r e⟩
theorem Lets.next {w w' : World} (h : Lets w) (hb : Below w.heap.size w w') : Lets w' := h.below hb h.low
theorem pow_eq : (Rows.laid_internal_strconv_uint64pow10 : DataW Unit) = Lib.tabData .u64 Lib.pow10Tab := by kernel_rfl
theorem laid_mem {P : Program} {W : World} {x : String × DataW Unit} : ∀ {l : List (String × DataW Unit)}, laidMet P l W → x ∈ l → ∃ r, laidMet P (x :: r) W
  | [], _, h => by cases h
  | y :: l, hm, h => by
    rcases List.mem_cons.1 h with rfl | h
    · exact ⟨l, hm⟩
    · exact laid_mem hm.tail h
theorem lets_of {l : List (String × DataW Unit)} {W : World} (h : laidMet Tryd.prog l W) (hsh : W.ShapedOpen Tryd.prog)
    (h1 : ("internal/strconv.uint64pow10", Rows.laid_internal_strconv_uint64pow10) ∈ l) (h2 : ("strconv.ErrSyntax", Rows.laid_strconv_ErrSyntax) ∈ l) (h3 : ("strconv.ErrRange", Rows.laid_strconv_ErrRange) ∈ l) : Lets W := by
  obtain ⟨r1, k1⟩ := laid_mem h h1
  obtain ⟨r2, k2⟩ := laid_mem h h2
  obtain ⟨r3, k3⟩ := laid_mem h h3
  rw [pow_eq] at k1
  have tab := Lib.tabIs_of_head gP gPType Tryd.underlying114 Tryd.underlying92 (by kernel_rfl) (by kernel_rfl) k1
  obtain ⟨a2, s2, hv2, -, -, -⟩ := laid_sentinel k2 gS gSType Tryd.underlying65 rowE Tryd.underlying109 Tryd.underlying111 rfl rfl Tryd.underlying9 (by kernel_rfl) (by kernel_rfl)
  obtain ⟨a3, s3, hv3, -, -, -⟩ := laid_sentinel k3 gR gRType Tryd.underlying65 rowE Tryd.underlying109 Tryd.underlying111 rfl rfl Tryd.underlying9 (by kernel_rfl) (by kernel_rfl)
  constructor
  · constructor
    · exact var_lt gP tab
    · exact var_lt gS hv2
    · exact var_lt gR hv3
  · exact tab
  · exact ⟨_, _, hv2⟩
  · exact ⟨_, _, hv3⟩
end Go.Proofs.YtknpbeekdjghgaaDoor.nm
