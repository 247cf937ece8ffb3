/- All tenants, by the package: a function value that gathers, sorted and compacted. -/
import Derived.Test.YtjbompimlopdiaaGreatDoorTeC
import Derived.Test.YtjbompimlopdiaaGreatDoorTeS
import Derived.Test.YtjbompimlopdiaaGreatDoorNmR
import Derived.Test.YtjbompimlopdiaaGreatDoorRgF
import Derived.Lib.RowBridge
namespace Go.Proofs.YtjbompimlopdiaaGreatDoor.te
set_option linter.unusedSimpArgs false
open Go.ChangeShapes Go.WideShapes Go.ChangeAt Go.RowKit Go.Proofs.Aid
open Go.Sort (Holds putRow grow)
open Go.Proofs.YtjbompimlopdiaaGreatDoor.rgy (En elemE RowE underP)
open Go.Proofs.YtjbompimlopdiaaGreatDoor.texts (tc)
open Go.Proofs.YtjbompimlopdiaaGreatDoor.nm (Lets strs partsS)
/-- Nothing below B turned but block g. -/
structure But (B g : Nat) (w w' : World) : Prop where
  low : Below g w w'
  block : ∀ i, i < B → i ≠ g → w'.heap[i]? = w.heap[i]?
theorem But.refl (B g : Nat) (w : World) : But B g w w := ⟨Below.refl _ _, fun _ _ _ => rfl⟩
theorem But.trans {B g : Nat} {a b c : World} (h : But B g a b) (k : But B g b c) : But B g a c := ⟨h.low.trans k.low, fun i hi hg => (k.block i hi hg).trans (h.block i hi hg)⟩
theorem But.of_below {B g : Nat} {w w' : World} (h : Below B w w') (hg : g ≤ B) : But B g w w' := ⟨h.mono hg, fun i hi _ => h.block i hi⟩
section
variable {α : Type} {f : α → List Value} {w w' : World} {base size : Nat} {e : TypeId} {v : Value} {xs : List α}
theorem Row.same (h : Row w base e size f v xs) (hs : ∀ q, v.ownBlock = some q → w'.heap[q]? = w.heap[q]?) : Row w' base e size f v xs := by
  refine ⟨h.1, ?_⟩
  rcases h.2 with q | ⟨g', cap, cur, q, hx, hh, r⟩
  · exact .inl q
  · exact .inr ⟨g', cap, cur, q, hx, (hs g' (by rw [q]; rfl)).trans hh, r⟩
theorem But.row {B g : Nat} (h : But B g w w') (r : Row w base e size f v xs) (ho : ∀ q, v.ownBlock = some q → q < B ∧ q ≠ g) : Row w' base e size f v xs :=
  Row.same r fun q hq => h.block q (ho q hq).1 (ho q hq).2
end
/-- The names so far, in their cell. -/
structure Nms (B g : Nat) (w : World) (L : List ByteArray) : Prop where
  val : ∃ v, Blk w g 30 #[v] ∧ Row w B 9 1 tc v L
  lt : g < B
  le : B ≤ w.heap.size
theorem Nms.below {B g : Nat} {w w' : World} {L : List ByteArray} (h : Nms B g w L) (hb : Below w.heap.size w w') : Nms B g w' L := by
  obtain ⟨⟨v, h1, h2⟩, h3, h4⟩ := h
  exact ⟨⟨v, h1.below hb h1.lt, h2.below hb⟩, h3, Nat.le_trans h4 hb.size⟩
theorem one_T (s : ByteArray) : ∀ u ∈ tc s, u.oneCell' = true := by simp [tc, Value.oneCell']
theorem infoT : (Tryz.prog.info? 9).map (fun i => (i.zero, i.size, i.bytes)) = some (some (.string ⟨#[]⟩), 1, 16) := by kernel_rfl
set_option maxRecDepth 100000 in
set_option maxHeartbeats 4000000 in
theorem gather_any (w : World) (B g : Nat) (L : List ByteArray) (pl : Addr) (A : Option Addr) (ca : Nat) (xs : List En) (q : ByteArray) (hl : xs.length ≤ 100000) (hN : Nms B g w L) (cl : w.cell? pl = some (.slice A xs.length ca))
    (h1 : Reads w w.heap.size 4 A xs.length (xs.flatMap En.cells)) (hq : q.size ≤ 1000000) (hL : L.length ≤ 100000) :
    Calls Tryz.prog 28 #[.string q, .pointer (some pl), .pointer (some ⟨g, 0, none⟩)] w fun e w' => e = .returned (.tuple #[]) ∧ Nms B g w' (L ++ [q].filter (isT xs)) ∧ But B g w w' := by
  obtain ⟨i0, hi0, hz0, hz1, hz2⟩ := info_parts infoT
  have HSe := Lib.hid (secretOf_any w A ca xs q hl h1 hq)
  have hF := Lib.hid (show [q].filter (isT xs) = if isT xs q then [q] else [] by cases h : isT xs q <;> simp [h])
  rw [hF.out]
  clear h1 hF
  generalize secV xs q = s at *
  generalize isT xs q = b at *
  obtain ⟨⟨v, hBlk, hRow⟩, hlt, hle⟩ := hN
  obtain ⟨A1, c1, rfl⟩ := hRow.form
  go_enter Tryz.func28, Tryz.ntmps28
  go_wp2_with fail
  refine HSe.out.mono ?_
  rintro e w1 ⟨rfl, hb⟩
  have hBlk1 := hBlk.below hb hBlk.lt
  have hRow1 := hRow.below hb
  have hle1 := Nat.le_trans hle hb.size
  have hBut1 := Lib.hid (But.of_below (B := B) (g := g) (hb.mono hle) (by omega))
  clear hBlk hRow hb HSe cl
  cases b with
  | false =>
    have HN := Lib.hid (show Nms B g w1 L from ⟨⟨_, hBlk1, hRow1⟩, hlt, hle1⟩)
    clear hBlk1 hRow1
    go_wp2
    go_end0
    exact ⟨rfl, by first | exact HN.out | (simp only [Bool.false_eq_true, if_false, List.append_nil]; exact HN.out), hBut1.out⟩
  | true =>
    have cg : w1.cell? ⟨g, 0, none⟩ = some (.slice A1 L.length c1) := by rw [hBlk1.cell]; rfl
    have hgb := hBlk1.alloc (.cells (tc q).toArray 9)
    have hno : ∀ k, (Value.slice A1 L.length c1).ownBlock = some k → B ≤ k := fun k hk => (hRow1.own hk).1
    have hRowA := hRow1.alloc (.cells (tc q).toArray 9)
    have HR1 := Lib.hid hRow1
    have HG1 := Lib.hid hBlk1
    clear hBlk1 hRow1
    have tok : True := trivial
    go_wp2_with (at_builtin; have _t := tok; refine wpList_append_row _ rfl _ _ 30 rfl B 9 i0 _ 1 16 Tryz.underlying30 hi0 hz0 hz1 hz2 rfl (by decide) _ _ rfl hRowA (fun _ => rfl) _ q rfl (cells_new _ _ (tc q)) (one_T _) (by unfold maxLen; omega) (by omega) (by simp; omega) ?_; intro v' w2 hrow' hgrow; obtain ⟨A2, c2', rfl⟩ := hrow'.form; have hgb2 := hgb.grown hgrow (fun e => by have := hno g e.symm; omega); have f2 := hgb2.frozen 0; have c2 : w2.cell? ⟨g, 0, none⟩ = some (.slice A1 L.length c1) := (by rw [hgb2.cell]; rfl); clear tok)
    have hlow2 : Below g w1 w2 := ((Below.refl g w1).alloc (by omega) _).grown hgrow (by simp; omega) (fun k hk => by have := hno k hk; omega)
    have hbl2 : ∀ i, i < B → i ≠ g → w2.heap[i]? = w1.heap[i]? := fun i hi _ => (hgrow.block i (by simp; omega) (fun e => by have := hno i e.symm; omega)).trans (Below.heap_alloc _ _ _ (by omega))
    have HN := Lib.hid (show Nms B g (w2.setCell ⟨g, 0, none⟩ (.slice A2 (L ++ [q]).length c2')) (L ++ [q]) from ⟨⟨_, hgb2.set_ 0 _, hrow'.setCell (by show g < B; omega) _⟩, hlt, by rw [show (w2.setCell ⟨g, 0, none⟩ (.slice A2 (L ++ [q]).length c2')).heap.size = w2.heap.size by simp [World.setCell]]; exact Nat.le_trans hle1 hlow2.size⟩)
    have HB2 := Lib.hid (show But B g w1 (w2.setCell ⟨g, 0, none⟩ (.slice A2 (L ++ [q]).length c2')) from ⟨hlow2.setCell (by show g ≤ g; omega) _, fun i hi hg => (Below.heap_setCell _ _ _ _ hg).trans (hbl2 i hi hg)⟩)
    have hln : (L ++ [q]).length = L.length + 1 := by simp
    rw [hln] at HN HB2
    go_end0
    exact ⟨rfl, HN.out, hBut1.out.trans HB2.out⟩
/-- The tenant that a register's key names: the middle of three parts, the last being the secret's. -/
def pick (e : En) : List ByteArray := match partsS e.key with | [_, q, r] => if r = fS then [q] else [] | _ => []
def gat (xs U : List En) (k : Nat) : List ByteArray := ((U.take k).flatMap pick).filter (isT xs)
theorem gat_step {xs U : List En} {k : Nat} (h : k < U.length) : gat xs U (k + 1) = gat xs U k ++ (pick U[k]).filter (isT xs) := by
  unfold gat
  rw [List.take_succ_eq_append_getElem h, List.flatMap_append, List.filter_append]
  simp
theorem pick_len (e : En) : (pick e).length ≤ 1 := by
  unfold pick
  split
  · split <;> simp
  · simp
theorem gat_len (xs U : List En) : ∀ k, k ≤ U.length → (gat xs U k).length ≤ k
  | 0, _ => by simp [gat]
  | k + 1, h => by
    rw [gat_step (by omega), List.length_append]
    have h1 := gat_len xs U k (by omega)
    have h2 := pick_len (U[k]'(by omega))
    have h3 := List.length_filter_le (isT xs) (pick (U[k]'(by omega)))
    omega
theorem gat_all (xs U : List En) : gat xs U U.length = (U.flatMap pick).filter (isT xs) := by unfold gat; rw [List.take_length]
theorem pick_three {e : En} {p q r : ByteArray} (h : partsS e.key = [p, q, r]) : pick e = if r = fS then [q] else [] := by unfold pick; rw [h]
theorem pick_other {e : En} (h : (partsS e.key).length ≠ 3) : pick e = [] := by
  unfold pick
  split
  · rename_i h'; rw [h'] at h; exact absurd rfl h
  · rfl
/-- All tenants. -/
def allT (xs : List En) : List (List UInt8) := sets.all [] (srt.data (((xs.filter (underP fT)).flatMap pick).filter (isT xs)))
def TextsAt (w : World) (l : List (List UInt8)) (e : Ending) (w' : World) : Prop := ∃ A c, e = .returned (.slice A l.length c) ∧ l.length ≤ c ∧ Reads w' w'.heap.size 1 A l.length ((strs l).flatMap tc) ∧ Below w.heap.size w w'
end Go.Proofs.YtjbompimlopdiaaGreatDoor.te
