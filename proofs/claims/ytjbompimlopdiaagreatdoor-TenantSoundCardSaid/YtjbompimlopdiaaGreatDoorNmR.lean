/- A path's parts, by the reference: a loop that appends. -/
import Derived.Test.YtjbompimlopdiaaGreatDoorNmQ
namespace Go.Proofs.YtjbompimlopdiaaGreatDoor.nm
open Go.ChangeShapes Go.WideShapes Go.ChangeAt Go.RowKit Go.Proofs.Aid Go.Proofs.YtjbompimlopdiaaGreatDoor.seg Go.Proofs.YtjbompimlopdiaaGreatDoor.name Go.Proofs.YtjbompimlopdiaaGreatDoor.texts
theorem infoT : (Tryz.prog.info? 9).map (fun i => (i.zero, i.size, i.bytes)) = some (some (.string ⟨#[]⟩), 1, 16) := by kernel_rfl
theorem one_T (x : ByteArray) : ∀ u ∈ tc x, u.oneCell' = true := by simp [tc, Value.oneCell']
theorem strs_append (a b : List (List UInt8)) : strs (a ++ b) = strs a ++ strs b := by simp [strs]
/-- The piece of a text from one place up to another one. -/
def piece (s : ByteArray) (f k : Nat) : List UInt8 := (s.data.toList.drop f).take (k - f)
theorem piece_data (s : ByteArray) (f k : Nat) : s.extract f k = ⟨(piece s f k).toArray⟩ := by
  apply ByteArray.ext; apply Array.toList_inj.1
  rw [Lib.extract_data]
  simp [piece, List.take_drop]
theorem piece_next (s : ByteArray) (f k : Nat) (hf : f ≤ k) (h : k < s.size) : piece s f (k + 1) = piece s f k ++ [s[k]] := by
  unfold piece
  rw [show k + 1 - f = (k - f) + 1 by omega, List.take_add_one]
  congr 1
  have : (s.data.toList.drop f)[k - f]? = some s[k] := by
    rw [List.getElem?_drop, show f + (k - f) = k by omega, List.getElem?_eq_getElem (by simpa using h)]
    rfl
  rw [this]; rfl
theorem piece_same (s : ByteArray) (f : Nat) : piece s f f = [] := by simp [piece]
/-- What the loop keeps. -/
def SegInv (s : ByteArray) (out : List (List UInt8)) (f k : Nat) : Prop := f ≤ k ∧ k ≤ s.size ∧ segs s.data.toList = out ++ segsA (piece s f k) (s.data.toList.drop k)
theorem SegInv.start (s : ByteArray) : SegInv s [] 0 0 := ⟨by omega, by omega, by rw [piece_same, List.drop_zero, segsA_start]; rfl⟩
theorem SegInv.cut {s : ByteArray} {out : List (List UInt8)} {f k : Nat} (h : SegInv s out f k) (hk : k < s.size) (h47 : s[k].toNat = 47) : SegInv s (out ++ [piece s f k]) (k + 1) (k + 1) := by
  obtain ⟨h1, h2, h3⟩ := h
  refine ⟨by omega, by omega, ?_⟩
  rw [drop_at s k hk, show s[k] = 47 from UInt8.toNat_inj.1 h47, segsA_slash] at h3
  rw [h3, piece_same]; simp
theorem SegInv.on {s : ByteArray} {out : List (List UInt8)} {f k : Nat} (h : SegInv s out f k) (hk : k < s.size) (h47 : ¬ s[k].toNat = 47) : SegInv s out f (k + 1) := by
  obtain ⟨h1, h2, h3⟩ := h
  refine ⟨by omega, by omega, ?_⟩
  rw [drop_at s k hk, segsA_other _ _ (fun e => h47 (by rw [e]; rfl)), ← piece_next s f k h1 hk] at h3
  exact h3
theorem SegInv.last {s : ByteArray} {out : List (List UInt8)} {f : Nat} (h : SegInv s out f s.size) : segs s.data.toList = out ++ [piece s f s.size] := by
  obtain ⟨h1, h2, h3⟩ := h
  rw [h3, List.drop_eq_nil_of_le (by simp), segsA_nil]
theorem segs_le : ∀ l : List UInt8, (segs l).length ≤ l.length + 1 := by
  intro l
  induction l with
  | nil => simp [segs]
  | cons c r ih =>
    simp only [segs]
    split
    · simpa using ih
    · cases hs : segs r with
      | nil => simp
      | cons a t => rw [hs] at ih; simp at ih ⊢; omega
theorem parts_le (s : ByteArray) : (parts s.data.toList).length ≤ s.size + 1 := by
  unfold parts
  split
  · simp
  · have := segs_le s.data.toList
    simpa using this
theorem segs_small : ∀ (l : List UInt8), ∀ x ∈ segs l, x.length ≤ l.length
  | [], x, hx => by simp [segs] at hx; subst hx; simp
  | c :: r, x, hx => by
    have ih := segs_small r
    simp only [segs] at hx
    split at hx
    · rcases List.mem_cons.1 hx with e | e
      · subst e; simp
      · have := ih x e; simp; omega
    · cases hs : segs r with
      | nil => rw [hs] at hx; simp at hx; subst hx; simp
      | cons a t =>
        rw [hs] at hx ih
        rcases List.mem_cons.1 hx with e | e
        · subst e
          have := ih a (by simp)
          simp; omega
        · have := ih x (by simp [e])
          simp; omega
theorem partsS_small (s : ByteArray) : ∀ x ∈ partsS s, x.size ≤ s.size + 1 := by
  intro x hx
  unfold partsS strs parts at hx
  obtain ⟨l, hl, rfl⟩ := List.mem_map.1 hx
  split at hl
  · simp at hl
  · have := segs_small _ l hl
    show l.toArray.size ≤ _
    simp at this ⊢
    omega
theorem SegInv.len {s : ByteArray} {out : List (List UInt8)} {f k : Nat} (h : SegInv s out f k) : out.length ≤ s.size := by
  have h3 := congrArg List.length h.2.2
  have h4 := segs_le s.data.toList
  have h5 : 1 ≤ (segsA (piece s f k) (s.data.toList.drop k)).length := by
    unfold segsA
    split <;> simp
  rw [List.length_append] at h3
  have h6 : s.data.toList.length = s.size := by simp
  omega
set_option maxHeartbeats 1000000 in
theorem rparts_any (s : ByteArray) (w : World) (hs : s.size ≤ 1000000) :
    Calls Tryz.prog 34 #[.string s] w (PartsIs s w) := by
  by_cases h0 : s.size = 0
  · obtain rfl := empty_of h0
    have hp : partsS ByteArray.empty = [] := rfl
    go_enter Tryz.func34, Tryz.ntmps34
    go_wp2
    go_ret
    refine ⟨none, 0, ?_, ?_, ?_, Below.refl _ _⟩
    · rw [hp]; rfl
    · rw [hp]; simp
    · rw [hp]; exact Reads.none_
  · have hne := ne_empty h0
    have hP : Hid (partsS s = strs (segs s.data.toList)) := by
      show partsS s = _
      unfold partsS parts
      rw [if_neg (by
        intro e
        apply h0
        have := congrArg List.length e
        simpa using this)]
    obtain ⟨i0, hi0, hz0, hz1, hz2⟩ := info_parts infoT
    go_enter Tryz.func34, Tryz.ntmps34
    go_wp2_with fail
    go_loopw [3, 4, 5] (fun ov fv iv wr => ∃ (out : List (List UInt8)) (f k : Nat), fv = .int .i64 f ∧ iv = .int .i64 k ∧ f ≤ k ∧ k ≤ s.size ∧ Hid (SegInv s out f k) ∧ Hid (Row wr w.heap.size 9 1 tc ov (strs out)) ∧ Hid (Below w.heap.size w wr)) (fun _ _ iv _ => s.size - (intOf iv).toNat)
    case atStart => exact ⟨[], 0, 0, rfl, rfl, by omega, by omega, SegInv.start s, Row.nil _ _ _ _ _, Below.refl _ _⟩
    case round =>
      obtain ⟨out, f, k, rfl, rfl, hfk, hk, hI, hrow, hlow⟩ := hrel
      have hol := hI.out.len
      have hsz := hlow.out.size
      by_cases hlt : k < s.size
      · by_cases h47 : (s[k]'hlt).toNat = 47
        · have hI2 := Lib.hid (hI.out.cut hlt h47)
          have hpd := piece_data s f k
          generalize piece s f k = pc at *
          have hl1 : (strs out).length = out.length := strs_length out
          go_wp2_with (at_builtin; refine wpList_append_row _ rfl _ _ 30 rfl w.heap.size 9 i0 _ 1 16 Tryz.underlying30 hi0 hz0 ‹_› hz2 rfl (by decide) _ _ rfl (hrow.out.alloc _) (fun _ => rfl) _ ⟨pc.toArray⟩ rfl (cells_new _ _ _) (one_T _) (by unfold maxLen; omega) (by omega) (by simp; omega) ?_; intro v' w2 hrow' hgrow)
          have hlow' := Lib.hid (low_row hlow.out hrow.out (Nat.le_refl _) hsz hgrow)
          go_roundw
          case rel => exact ⟨out ++ [pc], k + 1, k + 1, by go_num, by go_num, by omega, by omega, hI2, by rw [strs_append]; exact hrow', hlow'⟩
          case measure => simp [intOf]; omega
        · have hI2 := Lib.hid (hI.out.on hlt h47)
          have h47b : ((((s[k]'hlt).toNat : Nat) : Int) == 47) = false := by rw [beq_eq_false_iff_ne]; omega
          go_wp2
          go_roundw
          case rel => exact ⟨out, f, k + 1, rfl, by go_num, by omega, by omega, hI2, hrow, hlow⟩
          case measure => simp [intOf]; omega
      · have hke : k = s.size := by omega
        subst hke
        have hE := Lib.hid hI.out.last
        have hpd := piece_data s f s.size
        generalize piece s f s.size = pc at *
        have hl1 : (strs out).length = out.length := strs_length out
        go_wp2_with (at_builtin; refine wpList_append_row _ rfl _ _ 30 rfl w.heap.size 9 i0 _ 1 16 Tryz.underlying30 hi0 hz0 ‹_› hz2 rfl (by decide) _ _ rfl (hrow.out.alloc _) (fun _ => rfl) _ ⟨pc.toArray⟩ rfl (cells_new _ _ _) (one_T _) (by unfold maxLen; omega) (by omega) (by simp; omega) ?_; intro v' w2 hrow' hgrow)
        have hlow' := Lib.hid (low_row hlow.out hrow.out (Nat.le_refl _) hsz hgrow)
        have hE2 : partsS s = strs out ++ [⟨pc.toArray⟩] := by rw [hP.out, hE.out, strs_append]; rfl
        obtain ⟨A, c, rfl, hcc, hrd⟩ := Row.reads' hrow'
        go_ret
        refine ⟨A, c, ?_, ?_, ?_, hlow'.out⟩
        · rw [hE2]; rfl
        · rw [hE2]; exact hcc
        · rw [hE2]; exact hrd
end Go.Proofs.YtjbompimlopdiaaGreatDoor.nm
