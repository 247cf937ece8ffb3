/- What the library's package variables hold, for the walks of numbers and of cut texts; a start that meets the condition. -/
import Derived.Test.YtkbgmdabmebdhaaGreatDoorRows
import Derived.Test.YtkbgmdabmebdhaaGreatDoorShL
import Derived.Test.YtkbgmdabmebdhaaGreatDoorAid
import Derived.Test.YtkbgmdabmebdhaaGreatDoorOpen
import Derived.Lib.LaidTab
import Derived.Stop.LaidErr
import Derived.Lib.ItoaNum
import Derived.WalkSmall
import Derived.LaidMore
import Derived.Stop.Joined
import Derived.OpenShut
import Derived.ProofKit
import Derived.Shelf.Vars
namespace Go.Proofs.YtkbgmdabmebdhaaGreatDoor.nm
open Go.ChangeShapes Go.WideShapes Go.ChangeAt Go.RowKit Go.Proofs.Aid
theorem gP : Tryz.prog.globalNamed "internal/strconv.uint64pow10" = some 6 := by kernel_rfl
theorem gPType : (Tryz.prog.globals[6]?).map (·.type) = some 152 := by kernel_rfl
theorem gS : Tryz.prog.globalNamed "strconv.ErrSyntax" = some 3 := by kernel_rfl
theorem gSType : (Tryz.prog.globals[3]?).map (·.type) = some 97 := by kernel_rfl
theorem gR : Tryz.prog.globalNamed "strconv.ErrRange" = some 4 := by kernel_rfl
theorem gRType : (Tryz.prog.globals[4]?).map (·.type) = some 97 := by kernel_rfl
theorem star : "*" ++ "errors.errorString" = "*errors.errorString" := by decide
theorem rowE (u : TypeId) (h : Tryz.prog.typeName? 3 u = some "*errors.errorString") : u = 143 :=
  typeName_ptr_named (nm := "errors.errorString") (by rw [star]; kernel_rfl) (by kernel_rfl) (by decide) u (by rw [star]; exact h)
theorem var_lt {P : Program} {w : World} {n : String} {g : Nat} {cs : Array Value} (hg : P.globalNamed n = some g) (h : w.var? P n = some cs) : g < w.heap.size := by
  unfold World.var? at h
  simp only [hg, Option.bind_some] at h
  rcases Nat.lt_or_ge g w.heap.size with h' | h'
  · exact h'
  · rw [Array.getElem?_eq_none h'] at h; simp at h
theorem gT : Tryz.prog.globalNamed "pantler/tenant.limits" = some 0 := by kernel_rfl
theorem gTType : (Tryz.prog.globals[0]?).map (·.type) = some 79 := by kernel_rfl
abbrev limC : Array Value := #[.string ⟨#[98, 121, 116, 101, 115]⟩, .int .i64 1099511627776, .int .i64 1048576, .string ⟨#[114, 97, 116, 101]⟩, .int .i64 1048576, .int .i64 8, .string ⟨#[98, 117, 114, 115, 116]⟩, .int .i64 1048576, .int .i64 16, .string ⟨#[113, 117, 101, 117, 101]⟩, .int .i64 64, .int .i64 16]
/-- The variables' blocks lie below. -/
structure Over (B : Nat) : Prop where
  f : 1 < B
  z : 2 < B
  t : 0 < B
  p : 6 < B
  s : 3 < B
  r : 4 < B
theorem Over.mono {B B' : Nat} (h : Over B) (hB : B ≤ B') : Over B' := by
  constructor
  · exact Nat.lt_of_lt_of_le h.f hB
  · exact Nat.lt_of_lt_of_le h.z hB
  · exact Nat.lt_of_lt_of_le h.t hB
  · exact Nat.lt_of_lt_of_le h.p hB
  · exact Nat.lt_of_lt_of_le h.s hB
  · exact Nat.lt_of_lt_of_le h.r hB
/-- What the walks read. -/
structure Lets (w : World) : Prop where
  low : Over w.heap.size
  sh : sha.Lets w
  lim : w.var? Tryz.prog "pantler/tenant.limits" = some limC
  tab : Lib.TabIs Tryz.prog w "internal/strconv.uint64pow10" .u64 Lib.pow10Tab
  syn : ∃ tp p, w.var? Tryz.prog "strconv.ErrSyntax" = some #[.iface tp p]
  ran : ∃ tp p, w.var? Tryz.prog "strconv.ErrRange" = some #[.iface tp p]
theorem Lets.below {w w' : World} {B : Nat} (h : Lets w) (hb : Below B w w') (hB : Over B) : Lets w' := by
  constructor
  · exact h.low.mono hb.size
  · exact ⟨fun i hi => (hb.cell (p := ⟨1, i, none⟩) hB.f).trans (h.sh.f i hi), fun i hi => (hb.cell (p := ⟨2, i, none⟩) hB.z).trans (h.sh.s i hi)⟩
  · exact var?_below hb gT hB.t h.lim
  · exact var?_below hb gP hB.p h.tab
  · obtain ⟨tp, p, e⟩ := h.syn
    exact ⟨tp, p, var?_below hb gS hB.s e⟩
  · obtain ⟨tp, p, e⟩ := h.ran
    exact ⟨tp, p, var?_below hb gR hB.r e⟩
theorem Lets.next {w w' : World} (h : Lets w) (hb : Below w.heap.size w w') : Lets w' := h.below hb h.low
theorem pow_eq : (Rows.laid_internal_strconv_uint64pow10 : DataW Unit) = Lib.tabData .u64 Lib.pow10Tab := by kernel_rfl
theorem laid_mem {P : Program} {W : World} {x : String × DataW Unit} : ∀ {l : List (String × DataW Unit)}, laidMet P l W → x ∈ l → ∃ r, laidMet P (x :: r) W
  | [], _, h => by cases h
  | y :: l, hm, h => by
    rcases List.mem_cons.1 h with rfl | h
    · exact ⟨l, hm⟩
    · exact laid_mem hm.tail h
open Go.RowKit
open Go.RowKit
theorem len_of {W : World} (hsh : W.ShapedOpen Tryz.prog) : ∃ m, W.cell? ⟨5, 0, none⟩ = some (.int .i64 m) := cell_of_shapedOpen_int hsh (t := 3) (zero := #[.int .i64 0]) (by decide +kernel) (by kernel_rfl) rfl (by kernel_rfl) (by kernel_rfl) Tryz.underlying3
open Go.RowKit
set_option maxRecDepth 100000 in
theorem lim3 {H : Type} {enc : TypeId × Value → H} {w : World} {base : Nat} {spare : Nat → Bool} {held : Bool} {fuel : Nat} {cs : List Value} {x : DataW H × List MemPlace} {s : List UInt8} {a b : Int} (h : DataW.trod enc Tryz.prog w base spare held fuel 78 cs = some x)
    (hx : x.1 = .agg [.lit (.string s), .lit (.int .i64 a), .lit (.int .i64 b)]) : cs = [.string ⟨s.toArray⟩, .int .i64 a, .int .i64 b] := by
  obtain ⟨xs, n, rfl, rfl, hl, hn, hf⟩ := DataW.trod_struct Tryz.underlying78 h
  have c0 : Tryz.prog.cellsOf 9 = 1 := by kernel_rfl
  have c1 : Tryz.prog.cellsOf 3 = 1 := by kernel_rfl
  have c3 : Tryz.prog.cellsOf 78 = 3 := by kernel_rfl
  have hl3 : cs.length = 3 := hl.trans c3
  have hn3 : xs.length = 3 := hn
  obtain ⟨y0, y1, y2, rfl⟩ : ∃ y0 y1 y2, cs = [y0, y1, y2] := by match cs, hl3 with | [a, b, c], _ => exact ⟨a, b, c, rfl⟩
  obtain ⟨x0, x1, x2, rfl⟩ : ∃ x0 x1 x2, xs = [x0, x1, x2] := by match xs, hn3 with | [a, b, c], _ => exact ⟨a, b, c, rfl⟩
  have g0 : (([y0, y1, y2] : List Value).drop 0).take (Tryz.prog.cellsOf 9) = [y0] := by rw [c0]; rfl
  have g1 : (([y0, y1, y2] : List Value).drop 1).take (Tryz.prog.cellsOf 3) = [y1] := by rw [c1]; rfl
  have g2 : (([y0, y1, y2] : List Value).drop 2).take (Tryz.prog.cellsOf 3) = [y2] := by rw [c1]; rfl
  have h0 : DataW.trod enc Tryz.prog w base spare held n 9 [y0] = some x0 := by rw [← g0]; exact hf 0 _ rfl
  have h1 : DataW.trod enc Tryz.prog w base spare held n 3 [y1] = some x1 := by rw [← g1]; exact hf 1 _ rfl
  have h2 : DataW.trod enc Tryz.prog w base spare held n 3 [y2] = some x2 := by rw [← g2]; exact hf 2 _ rfl
  clear hf g0 g1 g2 hl hn h
  obtain ⟨k0, e0, f0, _⟩ := DataW.trod_string Tryz.underlying9 h0
  obtain ⟨k1, e1, f1, _⟩ := DataW.trod_int Tryz.underlying3 h1
  obtain ⟨k2, e2, f2, _⟩ := DataW.trod_int Tryz.underlying3 h2
  subst f0 f1 f2
  simp only [List.map_cons, List.map_nil, DataW.agg.injEq, DataW.lit.injEq, Lit.string.injEq, Lit.int.injEq, true_and, and_true, List.cons.injEq] at hx e0 e1 e2
  obtain ⟨g0, g1, g2⟩ := hx
  subst e0 e1 e2 g1 g2
  have e : k0 = ⟨s.toArray⟩ := by apply ByteArray.ext; apply Array.toList_inj.1; simpa using g0
  rw [e]
set_option maxRecDepth 100000 in
theorem lim_of {l : List (String × DataW Unit)} {W : World} (h : laidMet Tryz.prog l W) (h4 : ("pantler/tenant.limits", Rows.laid_pantler_tenant_limits) ∈ l) : W.var? Tryz.prog "pantler/tenant.limits" = some limC := by
  obtain ⟨r, h⟩ := laid_mem h h4
  obtain ⟨ps, ⟨g0, t0, cs0, f0, p0, q0, hg0, ht0, hv0, hd0, _, _⟩, _, _⟩ := h
  obtain rfl := Option.some.inj (gT.symm.trans hg0)
  obtain rfl := Option.some.inj (gTType.symm.trans ht0)
  obtain ⟨xs, m1, rfl, hx1, hlen, hn3, hel⟩ := DataW.trod_array Tryz.underlying79 hd0
  have c3 : Tryz.prog.cellsOf 78 = 3 := by kernel_rfl
  have c9 : Tryz.prog.cellsOf 79 = 12 := by kernel_rfl
  rw [c9] at hlen
  have h0 := hel 0 (by decide)
  have h1 := hel 1 (by decide)
  have h2 := hel 2 (by decide)
  have h3 := hel 3 (by decide)
  simp only [Prod.mk.injEq, Rows.laid_pantler_tenant_limits, DataW.agg.injEq] at hx1
  match xs, hn3, hx1, h0, h1, h2, h3 with
  | [x0, x1, x2, x3], _, hx1, h0, h1, h2, h3 =>
    simp only [List.map_cons, List.map_nil, List.cons.injEq] at hx1
    obtain ⟨⟨g0, g1, g2, g3, -⟩, -⟩ := hx1
    simp only [c3] at h0 h1 h2 h3
    have e0 := lim3 h0 g0.symm
    have e1 := lim3 h1 g1.symm
    have e2 := lim3 h2 g2.symm
    have e3 := lim3 h3 g3.symm
    rw [hv0]
    obtain ⟨q⟩ := cs0
    match q, hlen, e0, e1, e2, e3 with
    | [a0, a1, a2, a3, a4, a5, a6, a7, a8, a9, b0, b1], _, e0, e1, e2, e3 =>
      simp only [Nat.reduceMul, List.drop_succ_cons, List.drop_zero, List.take_succ_cons, List.take_zero, List.cons.injEq, and_true] at e0 e1 e2 e3
      obtain ⟨rfl, rfl, rfl⟩ := e0
      obtain ⟨rfl, rfl, rfl⟩ := e1
      obtain ⟨rfl, rfl, rfl⟩ := e2
      obtain ⟨rfl, rfl, rfl⟩ := e3
      rfl
set_option maxRecDepth 100000 in
theorem lets_of {l : List (String × DataW Unit)} {W : World} (h : laidMet Tryz.prog l W) (hsh : W.ShapedOpen Tryz.prog)
    (h5 : ("pantler/sha.first", Rows.laid_pantler_sha_first) ∈ l) (h6 : ("pantler/sha.steps", Rows.laid_pantler_sha_steps) ∈ l)
    (h4 : ("pantler/tenant.limits", Rows.laid_pantler_tenant_limits) ∈ l)
    (h1 : ("internal/strconv.uint64pow10", Rows.laid_internal_strconv_uint64pow10) ∈ l) (h2 : ("strconv.ErrSyntax", Rows.laid_strconv_ErrSyntax) ∈ l) (h3 : ("strconv.ErrRange", Rows.laid_strconv_ErrRange) ∈ l) : Lets W := by
  obtain ⟨r1, k1⟩ := laid_mem h h1
  obtain ⟨r2, k2⟩ := laid_mem h h2
  obtain ⟨r3, k3⟩ := laid_mem h h3
  rw [pow_eq] at k1
  have tab := Lib.tabIs_of_head gP gPType Tryz.underlying152 Tryz.underlying132 (by kernel_rfl) (by kernel_rfl) k1
  obtain ⟨a2, s2, hv2, -, -, -⟩ := laid_sentinel k2 gS gSType Tryz.underlying97 rowE Tryz.underlying143 Tryz.underlying145 rfl rfl Tryz.underlying9 (by kernel_rfl) (by kernel_rfl)
  obtain ⟨a3, s3, hv3, -, -, -⟩ := laid_sentinel k3 gR gRType Tryz.underlying97 rowE Tryz.underlying143 Tryz.underlying145 rfl rfl Tryz.underlying9 (by kernel_rfl) (by kernel_rfl)
  have lim := lim_of h h4
  have limLt := var_lt gT lim
  have shl := sha.lets_mem h h5 h6
  have shF := shl.lt.1
  have shZ := shl.lt.2
  constructor
  · constructor <;> first | assumption | exact var_lt gP tab | exact var_lt gS hv2 | exact var_lt gR hv3 | exact block_lt (len_of hsh).choose_spec
  · exact shl
  · exact lim
  · exact tab
  · exact ⟨_, _, hv2⟩
  · exact ⟨_, _, hv3⟩
  all_goals exact len_of hsh
open Go.RowKit
end Go.Proofs.YtkbgmdabmebdhaaGreatDoor.nm
