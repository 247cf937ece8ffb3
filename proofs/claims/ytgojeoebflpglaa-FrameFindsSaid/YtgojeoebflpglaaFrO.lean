/- With up to 32 bits that follow one another changed a record is not whole: plain. -/
import Derived.Test.YtgojeoebflpglaaFrN
namespace Go.Proofs.Ytgojeoebflpglaa.fr
set_option linter.unusedSimpArgs false
set_option linter.unusedVariables false
open Go.ChangeShapes Go.WideShapes Go.ChangeAt Go.RowKit Go.Proofs.Aid
open Go.Proofs.Ytgojeoebflpglaa.oc Go.Proofs.CrcMath
theorem scan_at (T : List UInt8) (hT : firstS (bz T) = none) (L : List ByteArray) (hz : ∀ s ∈ L, s.size ≤ 1048576) : scanS (bz (frsB L ++ T)) = (L, (frsB L).length) := by
  have hsuf : ∀ i, i ≤ L.length → (bz (frsB L ++ T)).extract (frsB (L.take i)).length (bz (frsB L ++ T)).size = bz (frsB (L.drop i) ++ T) := by
    intro i hi
    have e : frsB L = frsB (L.take i) ++ frsB (L.drop i) := by unfold frsB; rw [← List.flatMap_append, List.take_append_drop]
    rw [e, List.append_assoc, ext_tail]
  have hg : ∀ i, i ≤ L.length → Got (bz (frsB L ++ T)) i (L.take i) (frsB (L.take i)).length := by
    intro i
    induction i with
    | zero => intro _; exact ⟨rfl, rfl, by simp [frsB], by simp [frsB]⟩
    | succ i ih =>
      intro hi
      have hlt : i < L.length := by omega
      have h := ih (by omega)
      have hdrop : L.drop i = L[i] :: L.drop (i + 1) := List.drop_eq_getElem_cons hlt
      have hcons : frsB (L.drop i) = frB L[i] ++ frsB (L.drop (i + 1)) := by rw [hdrop]; unfold frsB; rw [List.flatMap_cons]
      have hf : firstS ((bz (frsB L ++ T)).extract (frsB (L.take i)).length (bz (frsB L ++ T)).size) = some L[i] := by
        rw [hsuf i (by omega), hcons, List.append_assoc]
        exact first_back _ _ (hz _ (List.getElem_mem hlt))
      have h2 := h.next hf
      have hfl : (frsB (L.take (i + 1))).length = (frsB (L.take i)).length + (8 + L[i].size) := by rw [frs_take L i hlt, List.length_append, frB_len]
      rw [← hfl, ← List.take_succ_eq_append_getElem hlt] at h2
      exact h2
  have h := hg L.length (Nat.le_refl _)
  rw [List.take_length] at h
  refine h.stop ?_
  have := hsuf L.length (Nat.le_refl _)
  rw [List.take_length, List.drop_length] at this
  rw [this]
  exact hT
theorem first_bad (n : Nat) (hn : n ≤ 1048576) (sm body rest : List UInt8) (hs : sm.length = 4) (hb : body.length = n) (hne : (cmore 0 (be 4 (n : Int) ++ body) : Int) ≠ numB sm) : firstS (bz (be 4 (n : Int) ++ (sm ++ (body ++ rest)))) = none := by
  have hsm := be4_list sm hs
  obtain ⟨n1, n2, n3⟩ := numB_four sm (by omega)
  have h1 := count_back 1048576 n (sm ++ (body ++ rest)) (by omega) (by omega) (by omega)
  have h2 := count_back 4294967295 (numB sm) (body ++ rest) (by omega) (by omega) (by omega)
  rw [hsm] at h2
  unfold firstS
  rw [h1]
  simp only
  rw [h2]
  simp only [Int.toNat_natCast]
  have e : (bz (body ++ rest)).extract 0 n = bz body := by rw [← hb]; exact ext_head _ _
  rw [e, bz_data2, if_neg (fun h => hne h.2)]
theorem xor_same {a d : UInt8} (h : a ^^^ d = a) : d = 0 := by
  have h2 : a ^^^ (a ^^^ d) = a ^^^ a := by rw [h]
  rw [← UInt8.xor_assoc, UInt8.xor_self, UInt8.zero_xor] at h2
  exact h2
theorem some_byte {u : Int} (h0 : 0 ≤ u) (h1 : u ≤ 4294967295) (h : dbyte u 0 = 0 ∧ dbyte u 1 = 0 ∧ dbyte u 2 = 0 ∧ dbyte u 3 = 0) : u = 0 := by
  obtain ⟨a, b, c, d⟩ := h
  have a' := congrArg UInt8.toNat a; have b' := congrArg UInt8.toNat b; have c' := congrArg UInt8.toNat c; have d' := congrArg UInt8.toNat d
  rw [dbyte_toNat] at a' b' c' d'
  simp at a' b' c' d'
  omega
theorem lst_app (P l : List UInt8) (k : Nat) (u : Int) (hk : k + 3 < l.length) : lst (P ++ l) (P.length + k) u 4 = P ++ lst l k u 4 := by
  obtain ⟨p, a, b, c, d, q, rfl, rfl⟩ := split_at l k hk
  have h1 := lst_four (P ++ p) q a b c d u
  rw [List.append_assoc, List.length_append] at h1
  rw [h1, lst_four, List.append_assoc]
theorem lst_pre (l R : List UInt8) (k : Nat) (u : Int) (hk : k + 3 < l.length) : lst (l ++ R) k u 4 = lst l k u 4 ++ R := by
  obtain ⟨p, a, b, c, d, q, rfl, rfl⟩ := split_at l k hk
  have e : p ++ a :: b :: c :: d :: q ++ R = p ++ a :: b :: c :: d :: (q ++ R) := by simp
  rw [e, lst_four, lst_four]; simp
theorem finds_scan (l : List ByteArray) (hz : ∀ s ∈ l, s.size ≤ 1048576) (k : Nat) (hk : k < l.length) (r : Nat) (hr : r = 0 ∨ 4 ≤ r) (hr2 : r ≤ l[k].size) (u : Int) (h0 : 0 ≤ u) (h1 : u ≤ 4294967295) (hu : u ≠ 0) :
    scanS (bz (lst (frsB l) ((frsB (l.take k)).length + (4 + r)) u 4)) = (l.take k, (frsB (l.take k)).length) := by
  have hdrop : l.drop k = l[k] :: l.drop (k + 1) := List.drop_eq_getElem_cons hk
  have hS : frsB l = frsB (l.take k) ++ (frB l[k] ++ frsB (l.drop (k + 1))) := by
    have e : frsB l = frsB (l.take k) ++ frsB (l.drop k) := by unfold frsB; rw [← List.flatMap_append, List.take_append_drop]
    rw [e, hdrop]; unfold frsB; rw [List.flatMap_cons]
  have hx := hz _ (List.getElem_mem hk)
  have hlen : 4 + r + 3 < (frB l[k]).length := by rw [frB_len]; omega
  rw [hS, lst_app _ _ _ _ (by rw [List.length_append]; omega), lst_pre _ _ _ _ hlen]
  refine scan_at _ ?_ _ (fun s hs => hz s (List.mem_of_mem_take hs))
  generalize l[k] = x at *
  generalize frsB (l.drop (k + 1)) = R at *
  have hfr : frB x = be 4 x.size ++ (be 4 (sumB x : Nat) ++ x.data.toList) := by simp [frB, headB]
  have hxl : x.data.toList.length = x.size := by simp
  rcases hr with rfl | hr
  · have e1 : lst (frB x) (4 + 0) u 4 = be 4 x.size ++ lst (be 4 (sumB x : Nat) ++ x.data.toList) 0 u 4 := by
      rw [hfr]
      have := lst_app (be 4 x.size) (be 4 (sumB x : Nat) ++ x.data.toList) 0 u (by rw [List.length_append, be_length]; omega)
      rw [be_length] at this
      exact this
    have e2 : lst (be 4 (sumB x : Nat) ++ x.data.toList) 0 u 4 = lst (be 4 (sumB x : Nat)) 0 u 4 ++ x.data.toList := lst_pre _ _ _ _ (by rw [be_length]; decide)
    rw [e1, e2, List.append_assoc, List.append_assoc]
    refine first_bad x.size hx _ _ R (by rw [lst_length, be_length]) hxl ?_
    show ((sumB x : Nat) : Int) ≠ _
    intro he
    have h4 := be4_list (lst (be 4 (sumB x : Nat)) 0 u 4) (by rw [lst_length, be_length])
    rw [← he] at h4
    have e4 : be 4 ((sumB x : Nat) : Int) = [UInt8.ofNat (bAt (sumB x : Nat) 3).toNat, UInt8.ofNat (bAt (sumB x : Nat) 2).toNat, UInt8.ofNat (bAt (sumB x : Nat) 1).toNat, UInt8.ofNat (bAt (sumB x : Nat) 0).toNat] := rfl
    rw [e4] at h4
    have e5 := lst_four [] [] (UInt8.ofNat (bAt (sumB x : Nat) 3).toNat) (UInt8.ofNat (bAt (sumB x : Nat) 2).toNat) (UInt8.ofNat (bAt (sumB x : Nat) 1).toNat) (UInt8.ofNat (bAt (sumB x : Nat) 0).toNat) u
    simp only [List.nil_append, List.length_nil] at e5
    rw [e5] at h4
    simp only [List.cons.injEq, and_true] at h4
    obtain ⟨q0, q1, q2, q3⟩ := h4
    exact hu (some_byte h0 h1 ⟨xor_same q0.symm, xor_same q1.symm, xor_same q2.symm, xor_same q3.symm⟩)
  · have e1 : lst (frB x) (4 + r) u 4 = be 4 x.size ++ (be 4 (sumB x : Nat) ++ lst x.data.toList (r - 4) u 4) := by
      rw [hfr]
      have h1 := lst_app (be 4 x.size) (be 4 (sumB x : Nat) ++ x.data.toList) r u (by rw [List.length_append, be_length]; omega)
      rw [be_length] at h1
      have h2 := lst_app (be 4 (sumB x : Nat)) x.data.toList (r - 4) u (by omega)
      rw [be_length, show 4 + (r - 4) = r by omega] at h2
      rw [h1, h2]
    rw [e1, List.append_assoc, List.append_assoc]
    refine first_bad x.size hx _ _ R (by rw [be_length]) (by rw [lst_length]; exact hxl) ?_
    rw [be4_back _ (by omega) (by have := sumB_lt x; omega)]
    have h2 := lst_app (be 4 x.size) x.data.toList (r - 4) u (by omega)
    have h3 := finds (be 4 x.size ++ x.data.toList) ((be 4 x.size).length + (r - 4)) (by rw [List.length_append]; omega) u h0 h1 hu
    rw [h2] at h3
    intro he
    exact h3 (by have := Int.ofNat.inj he; exact this)
end Go.Proofs.Ytgojeoebflpglaa.fr
