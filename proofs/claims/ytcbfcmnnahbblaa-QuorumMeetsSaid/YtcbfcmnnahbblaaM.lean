/- The names of a list, shared out. -/
import Derived.Test.YtcbfcmnnahbblaaJ
import Derived.Laws.Shifts
namespace Go.Proofs.Ytcbfcmnnahbblaa.quorum
open Go.ChangeShapes Go.WideShapes Go.ChangeAt Go.RowKit Go.Proofs.Aid Go.Proofs.Ytcbfcmnnahbblaa.texts
theorem bits_and3 (x : Int) : bits .and .i64 x 3 = x % 4 := by
  show IntKind.wrap .i64 (((BitVec.ofInt 64 x &&& BitVec.ofInt 64 3 : BitVec 64).toNat : Nat) : Int) = _
  have h1 : ((BitVec.ofInt 64 x &&& BitVec.ofInt 64 3).toNat : Int) = x % 4 := by
    rw [BitVec.toNat_and, show (BitVec.ofInt 64 3).toNat = 2 ^ 2 - 1 by decide, Nat.and_two_pow_sub_one_eq_mod, BitVec.toNat_ofInt]
    omega
  rw [h1]
  simp [IntKind.wrap, IntKind.bits, IntKind.signed]
  omega
def dig (n : Int) (i : Nat) : Int := n / 2 ^ (2 * i) % 4
theorem dig_four (n : Int) (i : Nat) : dig n i = (0 : Nat) ∨ dig n i = (1 : Nat) ∨ dig n i = (2 : Nat) ∨ dig n i = (3 : Nat) := by
  unfold dig; omega
def upd {α : Type} (f : Nat → α) (k : Nat) (x : α) : Nat → α := fun j => if j = k then x else f j
def parts (n : Int) (cs : List R38) : Nat → Nat → List ByteArray
  | 0, _ => []
  | i + 1, k => match cs[i]? with
    | some c => if dig n i = (k : Int) then parts n cs i k ++ [c.node_] else parts n cs i k
    | none => parts n cs i k
theorem parts_succ {n : Int} {cs : List R38} {i k : Nat} (h : i < cs.length) (hk : dig n i = (k : Int)) : parts n cs (i + 1) = upd (parts n cs i) k (parts n cs i k ++ [cs[i].node_]) := by
  funext j
  simp only [parts, List.getElem?_eq_getElem h, upd, hk]
  by_cases e : j = k
  · subst e; simp
  · have : ¬ ((k : Int) = j) := by omega
    simp [e, this]
theorem parts_len (n : Int) (cs : List R38) (k : Nat) : ∀ i, (parts n cs i k).length ≤ i
  | 0 => by simp [parts]
  | i + 1 => by
    have := parts_len n cs k i
    simp only [parts]
    split
    · split
      · simp; omega
      · omega
    · omega
/-- Four rows, in an array of their own. -/
structure Four (W : World) (g : Nat) (v : Nat → Value) (L : Nat → List ByteArray) (w' : World) : Prop where
  blk0 : Blk w' g 39 #[.slice none 0 0, .slice none 0 0, .slice none 0 0, .slice none 0 0]
  blk : Blk w' (g + 1) 39 #[v 0, v 1, v 2, v 3]
  row : ∀ k, Row w' (g + 2) 9 1 tc (v k) (L k)
  apart : ∀ j k, j ≠ k → ∀ b, (v j).ownBlock = some b → (v k).ownBlock ≠ some b
  low : Below g W w'
theorem Four.start (W : World) (n : Int) (cs : List R38) : Four W W.heap.size (fun _ => .slice none 0 0) (parts n cs 0) ((W.alloc (.cells #[.slice none 0 0, .slice none 0 0, .slice none 0 0, .slice none 0 0] 39)).alloc (.cells #[.slice none 0 0, .slice none 0 0, .slice none 0 0, .slice none 0 0] 39)) := by
  have B1 := Blk.new W 39 #[.slice none 0 0, .slice none 0 0, .slice none 0 0, .slice none 0 0]
  have B2 := Blk.new (W.alloc (.cells #[.slice none 0 0, .slice none 0 0, .slice none 0 0, .slice none 0 0] 39)) 39 #[.slice none 0 0, .slice none 0 0, .slice none 0 0, .slice none 0 0]
  rw [World.size_alloc] at B2
  exact ⟨B1.alloc _, B2, fun k => Row.nil _ _ _ _ _, fun j k _ b h => (by cases h), below_lit2 W _ _⟩
theorem Four.put {W w0 w1 : World} {g : Nat} {v : Nat → Value} {L : Nat → List ByteArray} {s : ByteArray} {v' : Value} (h : Four W g v L w0) {k : Nat} (hk : k < 4)
    (hr : Row w1 (g + 2) 9 1 tc v' (L k ++ [s])) (hg : (w0.alloc (.cells #[.string s] 9)).grownBy w1 (v k).ownBlock) (hat : v'.ownBlock = (v k).ownBlock ∨ v'.ownBlock = some (w0.heap.size + 1)) :
    Four W g (upd v k v') (upd L k (L k ++ [s])) (w1.setCell ⟨g + 1, k, none⟩ v') := by
  have hs : (w0.alloc (.cells #[.string s] 9)).heap.size = w0.heap.size + 1 := by rw [World.size_alloc]
  have hz : g + 1 < w0.heap.size := h.blk.lt
  have key : ∀ b, b < w0.heap.size → (∀ q, (v k).ownBlock = some q → q ≠ b) → ∀ {t : TypeId} {cs : Array Value}, Blk w0 b t cs → Blk w1 b t cs := fun b hb hne t cs hB => by
    have h1 : Blk (w0.alloc (.cells #[.string s] 9)) b t cs := Blk.alloc hB _
    exact h1.grown hg (fun e => hne b e.symm rfl)
  have hown : ∀ q, (v k).ownBlock = some q → g + 2 ≤ q := fun q hq => ((h.row k).own hq).1
  have B0 := key g (by omega) (fun q hq => by have := hown q hq; omega) h.blk0
  have B1 := key (g + 1) hz (fun q hq => by have := hown q hq; omega) h.blk
  have low1 : Below g W w1 := low_grown (h.low.alloc (by show g ≤ w0.heap.size; omega) (.cells #[.string s] 9)) (by omega : g ≤ g + 2) (by rw [hs]; omega) ((h.row k).alloc (.cells #[.string s] 9)) hg
  have old : ∀ j, j ≠ k → Row w1 (g + 2) 9 1 tc (v j) (L j) := fun j hj => ((h.row j).alloc (.cells #[.string s] 9)).kept hg (fun b hb e => h.apart k j (Ne.symm hj) b e hb)
  refine ⟨B0.far (p := ⟨g + 1, k, none⟩) (by show g ≠ g + 1; omega) _, ?_, fun j => ?_, fun i j hij b hi hj => ?_, low1.setCell (by show g ≤ g + 1; omega) _⟩
  · have : k = 0 ∨ k = 1 ∨ k = 2 ∨ k = 3 := by omega
    rcases this with rfl | rfl | rfl | rfl
    · exact B1.set_ 0 v'
    · exact B1.set_ 1 v'
    · exact B1.set_ 2 v'
    · exact B1.set_ 3 v'
  · by_cases e : j = k
    · subst e
      have := hr.setCell (p := ⟨g + 1, j, none⟩) (by show g + 1 < g + 2; omega) v'
      simpa [upd] using this
    · have := (old j e).setCell (p := ⟨g + 1, k, none⟩) (by show g + 1 < g + 2; omega) v'
      simpa [upd, e] using this
  · have fresh : ∀ j, (v j).ownBlock ≠ some (w0.heap.size + 1) := fun j e => by have := ((h.row j).own e).2; omega
    by_cases e1 : i = k
    · have e2 : j ≠ k := fun e => hij (e1.trans e.symm)
      simp only [upd, if_pos e1] at hi
      simp only [upd, if_neg e2] at hj
      rcases hat with x | x
      · exact h.apart k j (Ne.symm e2) b (x.symm.trans hi) hj
      · rw [x] at hi; injection hi with hi; subst hi; exact fresh j hj
    · simp only [upd, if_neg e1] at hi
      by_cases e2 : j = k
      · simp only [upd, if_pos e2] at hj
        rcases hat with x | x
        · exact h.apart i k e1 b hi (x.symm.trans hj)
        · rw [x] at hj; injection hj with hj; subst hj; exact fresh i hi
      · simp only [upd, if_neg e2] at hj
        exact h.apart i j hij b hi hj
theorem Four.drew {W w0 : World} {g : Nat} {v : Nat → Value} {L : Nat → List ByteArray} (h : Four W g v L w0) : Four W g v L w0.drew := ⟨h.blk0, h.blk, fun k => (h.row k).drew, h.apart, h.low.drew⟩
theorem Four.grow {W w0 w1 : World} {g : Nat} {v : Nat → Value} {L : Nat → List ByteArray} {o : Obj} (h : Four W g v L w0) {k : Nat} (hk : k < 4) (hg : (w0.alloc o).grownBy w1 (v k).ownBlock) : w1.cell? ⟨g + 1, k, none⟩ = some (v k) ∧ w1.frozen? ⟨g + 1, k, none⟩ = false := by
  have B : Blk w1 (g + 1) 39 #[v 0, v 1, v 2, v 3] := (Blk.alloc h.blk o).grown hg (fun e => by have := ((h.row k).own e.symm).1; omega)
  refine ⟨?_, B.frozen k⟩
  have : k = 0 ∨ k = 1 ∨ k = 2 ∨ k = 3 := by omega
  rcases this with rfl | rfl | rfl | rfl
  · exact B.cell 0
  · exact B.cell 1
  · exact B.cell 2
  · exact B.cell 3
theorem Four.at_ {W w0 : World} {g : Nat} {v : Nat → Value} {L : Nat → List ByteArray} (h : Four W g v L w0) {k : Nat} (hk : k < 4) : w0.cell? ⟨g + 1, k, none⟩ = some (v k) := by
  have : k = 0 ∨ k = 1 ∨ k = 2 ∨ k = 3 := by omega
  rcases this with rfl | rfl | rfl | rfl
  · exact h.blk.cell 0
  · exact h.blk.cell 1
  · exact h.blk.cell 2
  · exact h.blk.cell 3
end Go.Proofs.Ytcbfcmnnahbblaa.quorum
