/- Tables of words in one block; lists of words. -/
import Derived.Test.YtkbgmdabmebdhaaGreatDoorShN
import Derived.Test.YtkbgmdabmebdhaaGreatDoorKit
import Derived.Laws.Tables
import Derived.Laws.Rows
namespace Go.Proofs.YtkbgmdabmebdhaaGreatDoor.sha
open Go.ChangeShapes Go.WideShapes Go.ChangeAt Go.RowKit Go.Proofs.Aid
def wcell (k : IntKind) (N : Nat) (l : List Nat) : Array Value := ((List.range N).map fun i => Value.int k ((l.getD i 0 : Nat) : Int)).toArray
theorem wcell_size (k : IntKind) (N : Nat) (l : List Nat) : (wcell k N l).size = N := by simp [wcell]
theorem wcell_at {k : IntKind} {N : Nat} {l : List Nat} {i : Nat} (h : i < N) : (wcell k N l)[i]? = some (.int k ((l.getD i 0 : Nat) : Int)) := by simp [wcell, h]
theorem wcell_none {k : IntKind} {N : Nat} {l : List Nat} {i : Nat} (h : ¬ i < N) : (wcell k N l)[i]? = none := by
  apply Array.getElem?_eq_none; rw [wcell_size]; omega
theorem wcell_set (k : IntKind) (N : Nat) (l m : List Nat) (i v : Nat) (hv : m.getD i 0 = v) (hm : ∀ j, j ≠ i → m.getD j 0 = l.getD j 0) : (wcell k N l).setIfInBounds i (.int k (v : Int)) = wcell k N m := by
  apply Array.ext_getElem?
  intro j
  rw [Array.getElem?_setIfInBounds, wcell_size]
  by_cases hj : j < N
  · rw [wcell_at hj, wcell_at hj]
    by_cases e : i = j
    · subst e; rw [if_pos rfl, if_pos hj, hv]
    · rw [if_neg e, hm j (fun h => e h.symm)]
  · rw [wcell_none hj, wcell_none hj]
    by_cases e : i = j
    · subst e; simp [hj]
    · rw [if_neg e]
theorem getD_in {l : List Nat} {i : Nat} (h : i < l.length) : l.getD i 0 = l[i] := by simp [h]
theorem getD_out {l : List Nat} {i : Nat} (h : l.length ≤ i) : l.getD i 0 = 0 := by simp [h]
theorem getD_last (l : List Nat) (v : Nat) : (l ++ [v]).getD l.length 0 = v := by simp
theorem getD_not (l : List Nat) (v : Nat) {j : Nat} (h : j ≠ l.length) : (l ++ [v]).getD j 0 = l.getD j 0 := by
  rcases Nat.lt_or_ge j l.length with h1 | h1
  · rw [getD_in h1, getD_in (by simp; omega), List.getElem_append_left h1]
  · rw [getD_out h1, getD_out (by simp; omega)]
theorem wcell_push (k : IntKind) (N : Nat) (l : List Nat) (v : Nat) : (wcell k N l).setIfInBounds l.length (.int k (v : Int)) = wcell k N (l ++ [v]) :=
  wcell_set k N l _ _ v (getD_last l v) fun _ h => getD_not l v h
theorem wcell_last (k : IntKind) (N : Nat) (l : List Nat) (u v : Nat) : (wcell k N (l ++ [u])).setIfInBounds l.length (.int k (v : Int)) = wcell k N (l ++ [v]) :=
  wcell_set k N _ _ _ v (getD_last l v) fun _ h => by rw [getD_not l v h, getD_not l u h]
theorem wcell_zero (k : IntKind) (N : Nat) (l : List Nat) : wcell k N (l ++ [0]) = wcell k N l := by
  unfold wcell
  congr 2
  funext i
  by_cases h : i = l.length
  · subst h; simp
  · rw [getD_not l 0 h]
theorem wcell_one (k : IntKind) (N : Nat) (l : List Nat) : (wcell k N l).all (·.oneCell') = true := by
  rw [Array.all_eq_true]
  intro i hi
  simp [wcell, Value.oneCell']
theorem words16_length (b : List UInt8) (k : Nat) : (words16 b k).length = k := by simp [words16]
theorem words16_succ (b : List UInt8) (k : Nat) : words16 b (k + 1) = words16 b k ++ [wordN ((b.drop (4 * k)).take 4)] := by simp [words16, List.range_succ]
theorem schedN_length (l : List Nat) : ∀ k, (schedN k l).length = l.length + k
  | 0 => rfl
  | k + 1 => by rw [schedN, List.length_append, schedN_length l k]; simp; omega
theorem wordN_snoc (l : List UInt8) (c : UInt8) : wordN (l ++ [c]) = wordN l * 256 + c.toNat := by simp [wordN]
theorem wordN_lt : ∀ (l : List UInt8) (x m : Nat), x < m → l.foldl (fun n c => n * 256 + c.toNat) x < m * 256 ^ l.length
  | [], x, m, h => by simpa using h
  | c :: l, x, m, h => by
    have hc := c.toNat_lt
    have := wordN_lt l (x * 256 + c.toNat) (m * 256) (by omega)
    rw [List.foldl_cons, List.length_cons, Nat.pow_succ, Nat.mul_comm (256 ^ l.length) 256, ← Nat.mul_assoc]
    exact this
theorem wordN_bd {l : List UInt8} {j : Nat} (h : l.length ≤ j) : wordN l < 256 ^ j := by
  have h1 := wordN_lt l 0 1 (by decide)
  rw [Nat.one_mul] at h1
  exact Nat.lt_of_lt_of_le h1 (Nat.pow_le_pow_right (by decide) h)
theorem wordN_lt4 {l : List UInt8} (h : l.length ≤ 4) : wordN l < 4294967296 := wordN_bd h
theorem wordN_lt3 {l : List UInt8} (h : l.length ≤ 3) : wordN l < 16777216 := wordN_bd h
theorem allLt_getD {l : List Nat} (h : ∀ x ∈ l, x < 4294967296) (i : Nat) : l.getD i 0 < 4294967296 := by
  rcases Nat.lt_or_ge i l.length with h1 | h1
  · rw [getD_in h1]; exact h _ (List.getElem_mem h1)
  · rw [getD_out h1]; decide
theorem words16_lt (b : List UInt8) (k : Nat) : ∀ x ∈ words16 b k, x < 4294967296 := by
  intro x hx
  simp only [words16, List.mem_map] at hx
  obtain ⟨t, _, rfl⟩ := hx
  exact wordN_lt4 (List.length_take_le _ _)
theorem schedN_lt {l : List Nat} (h : ∀ x ∈ l, x < 4294967296) : ∀ k, ∀ x ∈ schedN k l, x < 4294967296
  | 0 => h
  | k + 1 => fun x hx => by
    rw [schedN, List.mem_append] at hx
    rcases hx with hx | hx
    · exact schedN_lt h k x hx
    · rw [List.mem_singleton] at hx; subst hx; exact mod_lt _
theorem sched_lt (b : List UInt8) : ∀ x ∈ sched b, x < 4294967296 := schedN_lt (words16_lt b 16) 48
theorem or_word (x : Nat) (c : UInt8) (hx : x < 16777216) : bits .or .u32 ((x : Int) * 256) ((c.toNat : Int) % 4294967296) = ((x * 256 + c.toNat : Nat) : Int) := by
  have hc := c.toNat_lt
  have h := u32_or_nat (x * 256) c.toNat (by omega) (by omega)
  rw [show (x : Int) * 256 = ((x * 256 : Nat) : Int) by omega, show (c.toNat : Int) % 4294967296 = (c.toNat : Int) by omega, h, show x * 256 = 2 ^ 8 * x by omega, ← Nat.two_pow_add_eq_or_of_lt (by omega) x]
theorem blk_setRow {w : World} {g : Nat} {t : TypeId} {cs cs' : Array Value} (h : Blk w g t cs) : Blk (w.setRow g cs') g t cs' := by
  unfold Blk at h ⊢
  simp [World.setRow, Array.getElem?_modify, h]
theorem blk_setRow_far {w : World} {g i : Nat} {t : TypeId} {cs cs' : Array Value} (h : Blk w g t cs) (hi : i ≠ g) : Blk (w.setRow i cs') g t cs := by
  unfold Blk at h ⊢
  simp [World.setRow, Array.getElem?_modify, h, hi]
theorem below_setRow {B : Nat} {a w : World} (h : Below B a w) {g : Nat} (hg : B ≤ g) (cs : Array Value) : Below B a (w.setRow g cs) :=
  ⟨h.os, h.tape, h.output, by simpa [World.setRow] using h.size, fun i hi => by
    have := h.block i hi
    simp only [World.setRow, Array.getElem?_modify]
    rw [if_neg (by omega)]; exact this⟩
theorem run_slice_string_lh {P : Program} {t : TypeId} (ht : P.underlying t = some .string) (w : World) (s : ByteArray) (kl kh : IntKind) (l h : Nat) (h1 : l ≤ h) (h2 : h ≤ s.size) {L H : Int} (hL : L = l) (hH : H = h) :
    (Instr.slice t (.string s) (some (.int kl L)) (some (.int kh H)) none).run P w = .ok (.string (s.extract l h)) w := by
  subst hL hH
  simp [Instr.slice, run_underlying ht, Instr.sliceBounds, run_sliceBound, sliced, *, show (l : Int) ≤ (h : Int) by omega, show (h : Int) ≤ (s.size : Int) by omega]
theorem run_loadAt_blk {P : Program} {w : World} {g : Nat} {t : TypeId} {cs : Array Value} {n : Nat} {e : TypeId} (h : Blk w g t cs) (hu : P.underlying t = some (.array n e)) (hi : (P.info? t).map (·.size) = some cs.size) :
    (Instr.loadAt t (.pointer (some ⟨g, 0, none⟩))).run P w = .ok (.agg cs) w := by
  simp only [Instr.loadAt, Instr.sureAddr, Sem.run_bind, Sem.run_pure, Result.andThen]
  exact run_loadVar_row w g t t cs (0, 0) _ h hu rfl hi
theorem run_storeAt_blk {P : Program} {w : World} {g : Nat} {t : TypeId} {cs cs' : Array Value} (h : Blk w g t cs) (hi : (P.info? t).map (·.size) = some cs'.size) (ho : cs.size = cs'.size) (h1 : cs'.all (·.oneCell') = true) :
    (Instr.storeAt t (.pointer (some ⟨g, 0, none⟩)) (.agg cs')).run P w = .ok () (w.setRow g cs') := by
  simp only [Instr.storeAt, Instr.sureAddr, Sem.run_bind, Sem.run_pure, Result.andThen]
  exact run_storeVar_row w g t t cs cs' h hi ho h1
theorem run_loadCells_blk {P : Program} {w : World} {g : Nat} {t : TypeId} {cs : Array Value} {n : Nat} (h : Blk w g t cs) (hn : cs.size = n) :
    (loadCellsFrom ⟨g, 0, none⟩ 0 n #[]).run P w = .ok cs w := by
  subst hn
  have := run_loadCells_list (P := P) w ⟨g, 0, none⟩ cs.toList (fun j v hv => by
    have hadd : (⟨g, 0, none⟩ : Addr).add j = ⟨g, j, none⟩ := by unfold Addr.add; split <;> simp_all
    rw [hadd, h.cell]
    simpa using hv)
  simpa [loadCells] using this
theorem run_storeCells_blk {P : Program} {w : World} {g : Nat} {t : TypeId} {cs cs' : Array Value} (h : Blk w g t cs) (hi : (P.info? t).map (·.size) = some cs'.size) (ho : cs.size = cs'.size) (h1 : cs'.all (·.oneCell') = true) :
    (storeCells ⟨g, 0, none⟩ cs'.toList 0).run P w = .ok () (w.setRow g cs') := by
  have := run_storeVar_row (P := P) w g t t cs cs' h hi ho h1
  cases hq : P.info? t with
  | none => simp [hq] at hi
  | some i =>
    have hs : cs'.size = i.size := by simp [hq] at hi; omega
    simpa [storeVar, sizeOf, typeInfo, hq, Value.cells, hs] using this
theorem extract_list (s : ByteArray) (i j : Nat) : (s.extract i j).data.toList = (s.data.toList.drop i).take (j - i) := by simp [List.extract_eq_take_drop]
end Go.Proofs.YtkbgmdabmebdhaaGreatDoor.sha
