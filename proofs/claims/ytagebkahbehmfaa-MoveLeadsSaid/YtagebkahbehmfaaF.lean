/- The walk of MoveParts; what is planned, applied, leads there. -/
import Derived.Test.YtagebkahbehmfaaE
namespace Go.Proofs.Ytagebkahbehmfaa.move
open Go.ChangeShapes Go.WideShapes Go.ChangeAt Go.RowKit Go.Proofs.Aid Go.Proofs.Ytagebkahbehmfaa.texts
theorem parts_len (p : ByteArray → Bool) : ∀ l : List ByteArray, (l.filter fun s => !p s).length + (l.filter p).length = l.length
  | [] => rfl
  | x :: l => by
    have := parts_len p l
    cases h : p x <;> simp [h] <;> omega
theorem gains_rests_len (was now : List ByteArray) : (gains was now).length + (rests was now).length = now.length := parts_len _ _
theorem rests_none (was now : List ByteArray) : rests (gains was now) (rests was now) = [] := by
  unfold rests gains
  rw [List.filter_eq_nil_iff]
  intro s hs h
  rw [List.mem_filter] at hs
  have h' := memB_iff.1 h
  rw [List.mem_filter] at h'
  simp [hs.2] at h'
theorem gains_none {was now : List ByteArray} (h : ∀ s ∈ now, s ∈ was) : gains was now = [] := by
  unfold gains
  rw [List.filter_eq_nil_iff]
  intro s hs
  simp [memB_iff.2 (h s hs)]
set_option maxRecDepth 100000 in
set_option maxHeartbeats 4000000 in
theorem parts_walk (W : World) (A B : Option Addr) (ca cb : Nat) (was now : List ByteArray) (h1 : Reads W W.heap.size 1 A was.length (was.flatMap tc)) (h2 : Reads W W.heap.size 1 B now.length (now.flatMap tc))
    (hs1 : ∀ s ∈ was, s.size ≤ maxLen) (hs2 : ∀ s ∈ now, s.size ≤ maxLen) (hl1 : was.length ≤ maxLen) (hl2 : now.length ≤ maxLen) :
    Calls Try.prog 5 #[.slice A was.length ca, .slice B now.length cb] W fun e w' => e = .returned (.bool true) ∧ Below W.heap.size W w' := by
  have H1 := Lib.hid h1
  have H2 := Lib.hid h2
  have S1 := Lib.hid hs1
  have S2 := Lib.hid hs2
  have L1 := Lib.hid hl1
  have L2 := Lib.hid hl2
  have HL := Lib.hid (Below.refl W.heap.size W)
  clear h1 h2 hs1 hs2 hl1 hl2
  go_enter Try.func5, Try.ntmps5
  go_wp2_with fail
  refine (few19_any _ A ca was L1.out H1.out S1.out).mono ?_
  rintro e w1 ⟨b, rfl, rfl, hb⟩
  cases b
  · clear hb
    go_wp2_with fail
    refine (awake_any _).mono ?_
    rintro e w2 ⟨rfl, hlow⟩
    go_wp2
    go_ret
    exact ⟨rfl, hlow⟩
  · have h40 := hb rfl
    clear hb
    go_wp2_with fail
    refine (few19_any _ B cb now L2.out H2.out S2.out).mono ?_
    rintro e w1 ⟨b, rfl, rfl, hb⟩
    cases b
    · clear hb
      go_wp2_with fail
      refine (awake_any _).mono ?_
      rintro e w2 ⟨rfl, hlow⟩
      go_wp2
      go_ret
      exact ⟨rfl, hlow⟩
    · have h41 := hb rfl
      clear hb
      have hsum := gains_rests_len was now
      have HN1 := Lib.hid (rests_none was now)
      have HN2 := Lib.hid (gains_none (was := now) (now := gains was now) (fun s hs => (List.mem_filter.1 hs).1))
      have HN3 := Lib.hid (gains_none (was := now) (now := now) (fun s hs => hs))
      go_wp2_with fail
      refine (gains_any _ A B ca cb was now (by omega) (by omega) H1.out H2.out S1.out S2.out).mono ?_
      generalize hge : gains was now = gl at *
      have HGE := Lib.hid hge
      clear hge
      rintro e w2 h
      obtain ⟨A2, c2, rfl, hr, hb⟩ := RowPost.out h
      have HR2 := Lib.hid hr
      clear h hr
      replace H1 := Lib.hid ((Hid.out H1).more_below hb)
      replace H2 := Lib.hid ((Hid.out H2).more_below hb)
      replace HL := Lib.hid ((Hid.out HL).trans (hb.mono (Hid.out HL).size))
      clear hb
      go_wp2_with fail
      refine (rests_any _ A B ca cb was now (by omega) (by omega) H1.out H2.out S1.out S2.out).mono ?_
      generalize hre : rests was now = rl at *
      have HRE := Lib.hid hre
      clear hre
      rintro e w3 h
      obtain ⟨A3, c3, rfl, hr, hb⟩ := RowPost.out h
      have HR3 := Lib.hid hr
      clear h hr
      replace H1 := Lib.hid ((Hid.out H1).more_below hb)
      replace H2 := Lib.hid ((Hid.out H2).more_below hb)
      replace HR2 := Lib.hid ((Hid.out HR2).more_below hb)
      replace HL := Lib.hid ((Hid.out HL).trans (hb.mono (Hid.out HL).size))
      clear hb
      have hse : ((gl.length : Int) + rl.length == now.length) = true := by rw [beq_iff_eq]; omega
      have hg9 : gl.length ≤ 40 := by omega
      have hr9 : rl.length ≤ 40 := by omega
      clear hsum
      go_wp2_with fail
      refine (rrests_any _ A2 A3 c2 c3 gl rl (by omega) (by omega) HR2.out HR3.out).mono ?_
      rw [HN1.out]
      rintro e w4 ⟨v4, rfl, hrow, hb⟩
      obtain ⟨A4, c4, rfl⟩ := hrow.form
      clear hrow HR3
      replace H1 := Lib.hid ((Hid.out H1).more_below hb)
      replace H2 := Lib.hid ((Hid.out H2).more_below hb)
      replace HR2 := Lib.hid ((Hid.out HR2).more_below hb)
      replace HL := Lib.hid ((Hid.out HL).trans (hb.mono (Hid.out HL).size))
      clear hb
      go_wp2_with fail
      refine (rgains_any _ B A2 cb c2 now gl (by omega) (by omega) H2.out HR2.out).mono ?_
      rw [HN2.out]
      rintro e w5 ⟨v5, rfl, hrow, hb⟩
      obtain ⟨A5, c5, rfl⟩ := hrow.form
      clear hrow HR2
      replace H1 := Lib.hid ((Hid.out H1).more_below hb)
      replace H2 := Lib.hid ((Hid.out H2).more_below hb)
      replace HL := Lib.hid ((Hid.out HL).trans (hb.mono (Hid.out HL).size))
      clear hb
      go_wp2_with fail
      refine (gains_any _ B B cb cb now now (by omega) (by omega) H2.out H2.out S2.out S2.out).mono ?_
      rw [HN3.out]
      rintro e w6 h
      obtain ⟨A6, c6, rfl, hr, hb⟩ := RowPost.out h
      clear h hr
      replace HL := Lib.hid ((Hid.out HL).trans (hb.mono (Hid.out HL).size))
      clear hb
      go_wp2_with fail
      refine (awake_any _).mono ?_
      rintro e w7 ⟨rfl, hb⟩
      replace HL := Lib.hid ((Hid.out HL).trans (hb.mono (Hid.out HL).size))
      clear hb
      go_wp2
      go_ret
      exact ⟨rfl, HL.out⟩
theorem opened {W : World} {v : Value} (h : V22 W v) : ∃ (A : Option Addr) (cap : Nat) (xs : List ByteArray), v = .slice A xs.length cap ∧ xs.length ≤ maxLen ∧ Reads W W.heap.size 1 A xs.length (xs.flatMap tc) ∧ ∀ s ∈ xs, s.size ≤ maxLen := by
  obtain ⟨A, n, cap, os, rfl, a1, a2, rfl, hR, hok⟩ := s22 h
  have e1 : os.length = (os.map R9.v).length := by simp
  have t1 := texts_of hR
  rw [e1] at t1
  exact ⟨A, cap, os.map R9.v, by rw [e1], by omega, t1, fun s hs => by obtain ⟨r, hr, rfl⟩ := List.mem_map.1 hs; exact hok r hr⟩
theorem parts_all (W : World) (v0 : Value) (v1 : Value) (h0 : V22 W v0) (h1 : V22 W v1) :
    Calls Try.prog 5 #[v0, v1] W fun e w' => e = .returned (.bool true) ∧ Below W.heap.size W w' := by
  obtain ⟨A, ca, was, rfl, l1, r1, s1⟩ := opened h0
  obtain ⟨B, cb, now, rfl, l2, r2, s2⟩ := opened h1
  exact parts_walk W A B ca cb was now r1 r2 s1 s2 l1 l2
theorem plan_mem {was now : List ByteArray} {k : Nat} {m : R36} : m ∈ plan was now k ↔ ∃ i, i < k ∧ ∃ (h1 : i < was.length) (h2 : i < now.length), was[i] ≠ now[i] ∧ m = ⟨i, was[i], now[i]⟩ := by
  induction k with
  | zero => simp [plan]
  | succ k ih =>
    rw [plan]
    split
    · rename_i h
      split
      · rename_i e
        rw [ih]
        constructor
        · rintro ⟨i, hi, h'⟩; exact ⟨i, by omega, h'⟩
        · rintro ⟨i, hi, h1, h2, h3, h4⟩
          refine ⟨i, ?_, h1, h2, h3, h4⟩
          rcases Nat.lt_or_ge i k with h' | h'
          · exact h'
          · have : i = k := by omega
            subst this; exact absurd e h3
      · rename_i e
        rw [List.mem_append, ih, List.mem_singleton]
        constructor
        · rintro (⟨i, hi, h'⟩ | rfl)
          · exact ⟨i, by omega, h'⟩
          · exact ⟨k, by omega, h.1, h.2, e, rfl⟩
        · rintro ⟨i, hi, h1, h2, h3, h4⟩
          rcases Nat.lt_or_ge i k with h' | h'
          · exact .inl ⟨i, h', h1, h2, h3, h4⟩
          · have : i = k := by omega
            subst this; exact .inr h4
    · rename_i h
      rw [ih]
      constructor
      · rintro ⟨i, hi, h'⟩; exact ⟨i, by omega, h'⟩
      · rintro ⟨i, hi, h1, h2, h3, h4⟩
        refine ⟨i, ?_, h1, h2, h3, h4⟩
        rcases Nat.lt_or_ge i k with h' | h'
        · exact h'
        · have : i = k := by omega
          subst this; exact absurd ⟨h1, h2⟩ h
theorem plan_pw (was now : List ByteArray) (k : Nat) : (plan was now k).Pairwise fun a b => a.part ≠ b.part := by
  induction k with
  | zero => exact List.Pairwise.nil
  | succ k ih =>
    rw [plan]
    split
    · split
      · exact ih
      · rw [List.pairwise_append]
        refine ⟨ih, List.pairwise_singleton _ _, fun a ha b hb => ?_⟩
        simp at hb; subst hb
        obtain ⟨i, hi, _, _, _, rfl⟩ := plan_mem.1 ha
        simp only; omega
    · exact ih
/-- l turned to r at the parts of some moves. -/
def mid (l r : List ByteArray) (ms : List R36) : List ByteArray := (List.range l.length).map fun (i : Nat) => if ms.any (fun m => m.part == (i : Int)) then r.getD i ByteArray.empty else l.getD i ByteArray.empty
theorem mid_len (l r : List ByteArray) (ms : List R36) : (mid l r ms).length = l.length := by simp [mid]
theorem mid_at {l r : List ByteArray} {ms : List R36} {i : Nat} (h : i < l.length) : (mid l r ms).getD i ByteArray.empty = if ms.any (fun m => m.part == (i : Int)) then r.getD i ByteArray.empty else l.getD i ByteArray.empty := by
  unfold mid
  rw [List.getD_eq_getElem?_getD, List.getElem?_map, List.getElem?_range h]; rfl
theorem getD_ext {a b : List ByteArray} (hl : a.length = b.length) (h : ∀ i, i < a.length → a.getD i ByteArray.empty = b.getD i ByteArray.empty) : a = b := by
  apply List.ext_getElem hl
  intro i h1 h2
  have := h i h1
  simpa [h1, h2] using this
theorem apply_to {l r : List ByteArray} (hlen : r.length = l.length) {rs : List R36} (h1 : ∀ m ∈ rs, 0 ≤ m.part ∧ m.part < l.length ∧ l.getD m.part.toNat ByteArray.empty = m.from_ ∧ r.getD m.part.toNat ByteArray.empty = m.to_)
    (h2 : rs.Pairwise fun a b => a.part ≠ b.part) (h3 : ∀ i, i < l.length → (∃ m ∈ rs, m.part = (i : Int)) ∨ l.getD i ByteArray.empty = r.getD i ByteArray.empty) : apply l rs = some r := by
  have key : ∀ k, k ≤ rs.length → appTo l rs k = some (mid l r (rs.take k)) := by
    intro k
    induction k with
    | zero =>
      intro _
      simp only [appTo]
      congr 1
      apply getD_ext (by rw [mid_len])
      intro i hi
      rw [mid_at hi]; simp
    | succ k ih =>
      intro hk
      have hlt : k < rs.length := by omega
      rw [appTo_succ hlt (ih (by omega))]
      obtain ⟨a, b, c, d⟩ := h1 rs[k] (List.getElem_mem hlt)
      have hp : rs[k].part.toNat < l.length := by omega
      have hno : (rs.take k).any (fun m => m.part == ((rs[k].part.toNat : Nat) : Int)) = false := by
        rw [List.any_eq_false]
        intro m hm
        obtain ⟨j, hj, rfl⟩ := List.getElem_of_mem hm
        rw [List.length_take] at hj
        rw [List.getElem_take, Int.toNat_of_nonneg a]
        simpa using List.pairwise_iff_getElem.1 h2 j k (by omega) hlt (by omega)
      unfold app1
      rw [if_pos ⟨a, by rw [mid_len]; exact b, by rw [mid_at hp, hno]; exact c⟩]
      congr 1
      apply getD_ext (by rw [List.length_set, mid_len, mid_len])
      intro i hi
      rw [List.length_set, mid_len] at hi
      rw [mid_at hi, List.take_succ_eq_append_getElem hlt, List.any_append]
      by_cases e : rs[k].part.toNat = i
      · subst e
        rw [List.getD_eq_getElem?_getD, List.getElem?_set_self (by rw [mid_len]; exact hi)]
        have : ([rs[k]].any fun m => m.part == ((rs[k].part.toNat : Nat) : Int)) = true := by simp; omega
        rw [this]; simp [← d]
      · rw [List.getD_eq_getElem?_getD, List.getElem?_set_ne e, ← List.getD_eq_getElem?_getD, mid_at hi]
        have : ([rs[k]].any fun m => m.part == (i : Int)) = false := by simp; omega
        rw [this]; simp
  unfold apply
  rw [key _ (Nat.le_refl _), List.take_length]
  congr 1
  apply getD_ext (by rw [mid_len, hlen])
  intro i hi
  rw [mid_len] at hi
  rw [mid_at hi]
  rcases h3 i hi with ⟨m, hm, e⟩ | h
  · rw [if_pos (List.any_eq_true.2 ⟨m, hm, by simpa using e⟩)]
  · split
    · rfl
    · exact h
def turn (m : R36) : R36 := ⟨m.part, m.to_, m.from_⟩
theorem planAll_mem {was now : List ByteArray} (hl : was.length = now.length) {m : R36} : m ∈ planAll was now ↔ ∃ i, ∃ (h1 : i < was.length) (h2 : i < now.length), was[i] ≠ now[i] ∧ m = ⟨i, was[i], now[i]⟩ := by
  unfold planAll; rw [plan_mem]
  constructor
  · rintro ⟨i, _, h⟩; exact ⟨i, h⟩
  · rintro ⟨i, h1, h⟩; exact ⟨i, by omega, h1, h⟩
theorem leads_to {was now : List ByteArray} (hl : was.length = now.length) {rs : List R36} (hm : ∀ m, m ∈ rs ↔ m ∈ planAll was now) (hp : rs.Pairwise fun a b => a.part ≠ b.part) : apply was rs = some now := by
  refine apply_to hl.symm (fun m h => ?_) hp (fun i hi => ?_)
  · obtain ⟨i, h1, h2, h3, rfl⟩ := (planAll_mem hl).1 ((hm m).1 h)
    refine ⟨by simp, by simpa using h1, ?_, ?_⟩ <;> simp [h1, h2]
  · have h2 : i < now.length := by omega
    by_cases e : was[i] = now[i]
    · exact .inr (by simp [hi, h2, e])
    · exact .inl ⟨_, (hm _).2 ((planAll_mem hl).2 ⟨i, hi, h2, e, rfl⟩), rfl⟩
theorem leads_back {was now : List ByteArray} (hl : was.length = now.length) {rs : List R36} (hm : ∀ m, m ∈ rs ↔ m ∈ planAll was now) (hp : rs.Pairwise fun a b => a.part ≠ b.part) : apply now (rs.map turn) = some was := by
  refine apply_to hl (fun m h => ?_) (List.pairwise_map.2 hp) (fun i hi => ?_)
  · obtain ⟨m', h', rfl⟩ := List.mem_map.1 h
    obtain ⟨i, h1, h2, h3, rfl⟩ := (planAll_mem hl).1 ((hm m').1 h')
    refine ⟨by simp [turn], by simpa [turn] using h2, ?_, ?_⟩ <;> simp [turn, h1, h2]
  · have h1 : i < was.length := by omega
    by_cases e : was[i] = now[i]
    · exact .inr (by simp [hi, h1, e])
    · exact .inl ⟨_, List.mem_map.2 ⟨_, (hm _).2 ((planAll_mem hl).2 ⟨i, h1, hi, e, rfl⟩), rfl⟩, rfl⟩
theorem planAll_pw (was now : List ByteArray) : (planAll was now).Pairwise fun a b => a.part ≠ b.part := plan_pw _ _ _
theorem leads1 {was now : List ByteArray} (hl : was.length = now.length) : apply was (planAll was now) = some now := leads_to hl (fun _ => Iff.rfl) (planAll_pw _ _)
theorem rev_pw (was now : List ByteArray) : (planAll was now).reverse.Pairwise fun a b => a.part ≠ b.part := List.pairwise_reverse.2 ((planAll_pw was now).imp fun h => Ne.symm h)
theorem leads2 {was now : List ByteArray} (hl : was.length = now.length) : apply was (planAll was now).reverse = some now := leads_to hl (fun _ => List.mem_reverse) (rev_pw _ _)
theorem leads3 {was now : List ByteArray} (hl : was.length = now.length) : apply now ((planAll was now).reverse.map turn) = some was := leads_back hl (fun _ => List.mem_reverse) (rev_pw _ _)
end Go.Proofs.Ytagebkahbehmfaa.move
