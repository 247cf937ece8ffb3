/- That a read and a write meet. -/
import Derived.Test.YtcbfcmnnahbblaaM
namespace Go.Proofs.Ytcbfcmnnahbblaa.quorum
open Go.ChangeShapes Go.WideShapes Go.ChangeAt Go.RowKit Go.Proofs.Aid Go.Proofs.Ytcbfcmnnahbblaa.texts
theorem mem_parts {n : Int} {cs : List R38} {k : Nat} {s : ByteArray} : ∀ {i : Nat}, s ∈ parts n cs i k → ∃ j c, cs[j]? = some c ∧ dig n j = (k : Int) ∧ c.node_ = s
  | 0, h => by simp [parts] at h
  | i + 1, h => by
    simp only [parts] at h
    split at h
    · rename_i c hc
      split at h
      · rename_i hd
        rw [List.mem_append] at h
        rcases h with h | h
        · exact mem_parts h
        · exact ⟨i, c, hc, hd, by simpa using (List.mem_singleton.1 h).symm⟩
      · exact mem_parts h
    · exact mem_parts h
theorem count_apart (p q r : R38 → Bool) : ∀ cs : List R38, (∀ c ∈ cs, (p c = true → r c = true) ∧ (q c = true → r c = true) ∧ ¬ (p c = true ∧ q c = true)) → cs.countP p + cs.countP q ≤ cs.countP r
  | [], _ => by simp
  | c :: cs, h => by
    obtain ⟨h1, h2, h3⟩ := h c (by simp)
    have ih := count_apart p q r cs (fun c hc => h c (by simp [hc]))
    rw [List.countP_cons, List.countP_cons, List.countP_cons]
    cases hp : p c <;> cases hq : q c <;> simp [hp, hq] at h1 h2 h3 ⊢
    · split <;> omega
    · rw [if_pos h2]; omega
    · rw [if_pos h1]; omega
theorem wr_one {w pw : Int} {a b c d : Nat} (h : wrI w pw a b c d = 1) : pw ≤ b := by
  unfold wrI at h
  split at h
  · rename_i e; simp only [Bool.and_eq_true, decide_eq_true_eq] at e; exact e.2
  · split at h <;> simp at h
theorem rd_one {r pr : Int} {L a b c d n m : Nat} (h : rdI r pr false L a b c d n m = 1 ∨ rdI r pr false L a b c d n m = 3) : pr ≤ b := by
  unfold rdI at h
  split at h
  · rename_i e; simp only [Bool.and_eq_true, decide_eq_true_eq] at e; exact e.2
  · simp only [Bool.false_and, Bool.false_eq_true, if_false] at h
    split at h <;> simp at h
theorem meets {cs : List R38} {n0 n1 N pr pw qr qw : Int} {pm : Bool} (dist : ∀ a b (ha : a < cs.length) (hb : b < cs.length), a < b → cs[a].node_ ≠ cs[b].node_) (hcl : (cs.countP R38.primary : Int) ≤ N) (hs : N < qr + qw)
    {Z : List ByteArray} (hw : wrI pw qw (nA (memB (parts n0 cs cs.length 0)) cs) (nB (memB (parts n0 cs cs.length 0)) cs) (nA (fun s => !inAny [parts n0 cs cs.length 0, Z] s) cs) (nB (fun s => !inAny [parts n0 cs cs.length 0, Z] s) cs) = 1)
    (hr : rvI pr qr pm false cs (parts n1 cs cs.length 0) (parts n1 cs cs.length 1) (parts n1 cs cs.length 2) = 1 ∨ rvI pr qr pm false cs (parts n1 cs cs.length 0) (parts n1 cs cs.length 1) (parts n1 cs cs.length 2) = 3) :
    ∃ i, ∃ h : i < cs.length, cs[i].primary = true ∧ dig n0 i = 0 ∧ (dig n1 i = 0 ∨ (dig n1 i = 1 ∧ pm = true)) := by
  refine Classical.byContradiction fun hno => ?_
  have h1 := wr_one hw
  have h2 := rd_one (by unfold rvI at hr; exact hr)
  rw [nB_eq] at h1 h2
  have uniq : ∀ {j i : Nat} {c : R38}, cs[j]? = some c → (hi : i < cs.length) → c.node_ = cs[i].node_ → j = i := fun {j i c} hj hi e => by
    obtain ⟨hjl, rfl⟩ := List.getElem?_eq_some_iff.1 hj
    rcases Nat.lt_trichotomy j i with h | h | h
    · exact absurd e (dist j i hjl hi h)
    · exact h
    · exact absurd e.symm (dist i j hi hjl h)
  have inp : ∀ {n : Int} {k i : Nat} (hi : i < cs.length), memB (parts n cs cs.length k) cs[i].node_ = true → dig n i = (k : Int) := fun {n k i} hi hm => by
    obtain ⟨j, c, hj, hd, e⟩ := mem_parts (memB_iff.1 hm)
    have := uniq hj hi e
    subst this; exact hd
  have := count_apart (fun c => memB (parts n0 cs cs.length 0) c.node_ && c.primary) (fun c => inAny (cond pm [parts n1 cs cs.length 0, parts n1 cs cs.length 1] [parts n1 cs cs.length 0]) c.node_ && c.primary) R38.primary cs (fun c hc => by
    refine ⟨fun h => by simp only [Bool.and_eq_true] at h; exact h.2, fun h => by simp only [Bool.and_eq_true] at h; exact h.2, fun ⟨h3, h4⟩ => hno ?_⟩
    obtain ⟨i, hi, rfl⟩ := List.getElem_of_mem hc
    simp only [Bool.and_eq_true] at h3 h4
    refine ⟨i, hi, h3.2, inp hi h3.1, ?_⟩
    cases pm with
    | false =>
      have : memB (parts n1 cs cs.length 0) cs[i].node_ = true := by rw [← inAny_one]; exact h4.1
      exact .inl (inp hi this)
    | true =>
      have h5 := h4.1
      change inAny [parts n1 cs cs.length 0, parts n1 cs cs.length 1] cs[i].node_ = true at h5
      rw [inAny2, memB_app, Bool.or_eq_true] at h5
      rcases h5 with h | h
      · exact .inl (inp hi h)
      · exact .inr ⟨inp hi h, rfl⟩)
  omega
end Go.Proofs.Ytcbfcmnnahbblaa.quorum
