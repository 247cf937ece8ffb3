/- The letters of the rights: what the listed variable holds, for the walks; a start that meets the condition. -/
import Derived.Test.YtcapahehfokihaaDoorRows
import Derived.Test.YtcapahehfokihaaDoorAid
import Derived.Test.YtcapahehfokihaaDoorOpen
import Derived.LaidMore
import Derived.Stop.Joined
import Derived.OpenShut
import Derived.ProofKit
namespace Go.Proofs.YtcapahehfokihaaDoor.acc
open Go.ChangeShapes Go.WideShapes Go.ChangeAt Go.RowKit Go.Proofs.Aid
abbrev laidL : List (String × DataW Unit) := [("pantler/access.letters", Rows.laid_pantler_access_letters)]
theorem gL : Tryd.prog.globalNamed "pantler/access.letters" = some 0 := by kernel_rfl
theorem tL : (Tryd.prog.globals[0]?).map (·.type) = some 23 := by kernel_rfl
/-- The three letters. -/
def Lets (w : World) : Prop := w.cell? ⟨0, 0, none⟩ = some (.string ⟨#[114]⟩) ∧ w.cell? ⟨0, 1, none⟩ = some (.string ⟨#[119]⟩) ∧ w.cell? ⟨0, 2, none⟩ = some (.string ⟨#[108]⟩)
theorem Lets.lt {w : World} (h : Lets w) : 0 < w.heap.size := block_lt h.1
theorem Lets.below {w w' : World} {B : Nat} (h : Lets w) (hb : Below B w w') (hB : 0 < B) : Lets w' :=
  ⟨(hb.cell (p := ⟨0, 0, none⟩) hB).trans h.1, (hb.cell (p := ⟨0, 1, none⟩) hB).trans h.2.1, (hb.cell (p := ⟨0, 2, none⟩) hB).trans h.2.2⟩
theorem Lets.next {w w' : World} (h : Lets w) (hb : Below w.heap.size w w') : Lets w' := h.below hb h.lt
theorem str_of {l : List UInt8} {s : ByteArray} (h : s.data.toList = l) : s = ⟨l.toArray⟩ := by
  apply ByteArray.ext; apply Array.toList_inj.1; simpa using h
theorem at_take {α : Type} {l : List α} {i : Nat} {v : α} (e : (l.drop (i * 1)).take 1 = [v]) : l[i]? = some v := by
  have := congrArg (fun m : List α => m[0]?) e
  simpa using this
theorem lets_of {W : World} (h : laidMetH Tryd.prog laidL W) : Lets W := by
  rw [MakeChecks.laidMetH_plain _ _ _ (by kernel_rfl)] at h
  obtain ⟨ps, ⟨g0, t0, cs0, f0, p0, q0, hg0, ht0, hv0, hd0, _, _⟩, _, _⟩ := h
  obtain rfl := Option.some.inj (gL.symm.trans hg0)
  obtain rfl := Option.some.inj (tL.symm.trans ht0)
  obtain ⟨xs, m1, rfl, hx1, hlen, hn3, hel⟩ := DataW.trod_array Tryd.underlying23 hd0
  have c9 : Tryd.prog.cellsOf 9 = 1 := by kernel_rfl
  have h0 := hel 0 (by decide)
  have h1 := hel 1 (by decide)
  have h2 := hel 2 (by decide)
  simp only [Prod.mk.injEq, Rows.laid_pantler_access_letters, DataW.agg.injEq] at hx1
  match xs, hn3, hx1, h0, h1, h2 with
  | [x0, x1, x2], _, hx1, h0, h1, h2 =>
    simp only [List.map_cons, List.map_nil, List.cons.injEq] at hx1
    obtain ⟨k0, e0, f0, _⟩ := DataW.trod_string Tryd.underlying9 (show DataW.trod _ Tryd.prog W 0 _ false m1 9 _ = some x0 from h0)
    obtain ⟨k1, e1, f1, _⟩ := DataW.trod_string Tryd.underlying9 (show DataW.trod _ Tryd.prog W 0 _ false m1 9 _ = some x1 from h1)
    obtain ⟨k2, e2, f2, _⟩ := DataW.trod_string Tryd.underlying9 (show DataW.trod _ Tryd.prog W 0 _ false m1 9 _ = some x2 from h2)
    obtain ⟨⟨g0, g1, g2, -⟩, -⟩ := hx1
    rw [f0] at g0
    rw [f1] at g1
    rw [f2] at g2
    injection g0 with g0; injection g0 with g0
    injection g1 with g1; injection g1 with g1
    injection g2 with g2; injection g2 with g2
    rw [c9] at e0 e1 e2
    have v0 := World.var?_cell hg0 hv0 0
    have v1 := World.var?_cell hg0 hv0 1
    have v2 := World.var?_cell hg0 hv0 2
    have w0 := at_take e0
    have w1 := at_take e1
    have w2 := at_take e2
    rw [Array.getElem?_toList] at w0 w1 w2
    exact ⟨by rw [v0, w0, str_of g0.symm], by rw [v1, w1, str_of g1.symm], by rw [v2, w2, str_of g2.symm]⟩
/-- The door's own heap meets the condition: three closed facts. -/
theorem door_met (os : Os) (args : Array Value) : laidMetH Tryd.prog laidL ((World.doorLaid Tryd.prog 400 os).forCall (fun _ _ => 0) ⟨#[], args, []⟩).memory :=
  laidMetH_of_parts3 (fuel := 8) (laidMet_of_run' 8 (by kernel_rfl) (by kernel_rfl)) (by kernel_rfl) (by kernel_rfl)
end Go.Proofs.YtcapahehfokihaaDoor.acc
