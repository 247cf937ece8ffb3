/- More walks of package register: Check, Next, and whether a register has few bytes. -/
import Derived.Test.YtjbompimlopdiaaGreatDoorRegA
import Derived.Test.YtjbompimlopdiaaGreatDoorNameIs
namespace Go.Proofs.YtjbompimlopdiaaGreatDoor.reg
open Go.ChangeShapes Go.WideShapes Go.ChangeAt Go.RowKit Go.Proofs.Aid Go.Proofs.YtjbompimlopdiaaGreatDoor.name
def Rg.may (r : Rg) : Prop := 1 ≤ r.n ∧ r.n ≤ 9007199254740992 ∧ (r.by_.size = 0 ∨ isName r.by_.data.toList = true) ∧ r.value.size ≤ 256
instance (r : Rg) : Decidable r.may := by unfold Rg.may; infer_instance
def Rg.check (r : Rg) : Int := if r.may then 0 else 1
theorem check_bad {r : Rg} (h : ¬ r.may) : r.check = 1 := if_neg h
theorem check_ok {r : Rg} (h : r.may) : r.check = 0 := if_pos h
theorem nil_of {s : ByteArray} (h : s.size = 0) : s = ByteArray.empty := by
  apply ByteArray.ext; apply Array.eq_empty_of_size_eq_zero; exact h
theorem not_nil {s : ByteArray} (h : ¬ s.size = 0) : ¬ s.toList = [] := fun e => h (by rw [Lib.toList_data] at e; have := congrArg List.length e; simpa using this)
theorem isName_nil : isName [] = false := rfl
set_option maxHeartbeats 1000000 in
theorem check_any (r : Rg) (W : World) (hb : r.by_.size ≤ maxLen) (hv : r.value.size ≤ maxLen) : Calls Tryz.prog 82 #[r.val] W fun e w' => e = .returned (.int .i64 r.check) ∧ Below W.heap.size W w' := by
  obtain ⟨n, b, v⟩ := r
  simp only at hb hv
  have hb' := Lib.hid hb
  unfold maxLen at hb hv
  show Calls Tryz.prog 82 #[.agg #[.int .i64 n, .string b, .string v]] W _
  have hB : Blk (W.alloc (.cells #[.int .i64 n, .string b, .string v] 36)) W.heap.size 36 #[.int .i64 n, .string b, .string v] := Blk.new _ _ _
  by_cases h1 : n < 1
  · have hc := Lib.hid (check_bad (r := ⟨n, b, v⟩) (fun h => by have := h.1; simp only at this; omega))
    clear hB
    go_enter Tryz.func82, Tryz.ntmps82
    go_wp2
    go_ret
    exact ⟨ret_int (by rw [hc.out]), (Below.refl _ _).alloc (Nat.le_refl _) _⟩
  by_cases h2 : 9007199254740992 < n
  · have hc := Lib.hid (check_bad (r := ⟨n, b, v⟩) (fun h => by have := h.2.1; simp only at this; omega))
    clear hB
    go_enter Tryz.func82, Tryz.ntmps82
    go_wp2
    go_ret
    exact ⟨ret_int (by rw [hc.out]), (Below.refl _ _).alloc (Nat.le_refl _) _⟩
  by_cases h3 : b.size = 0
  · obtain rfl := nil_of h3
    by_cases h4 : 256 < v.size
    · have hc := Lib.hid (check_bad (r := ⟨n, ByteArray.empty, v⟩) (fun h => by have := h.2.2.2; simp only at this; omega))
      clear hB
      go_enter Tryz.func82, Tryz.ntmps82
      go_wp2
      go_ret
      exact ⟨ret_int (by rw [hc.out]), (Below.refl _ _).alloc (Nat.le_refl _) _⟩
    · have hc := Lib.hid (check_ok (r := ⟨n, ByteArray.empty, v⟩) ⟨by simp only; omega, by simp only; omega, .inl rfl, by simp only; omega⟩)
      clear hB
      go_enter Tryz.func82, Tryz.ntmps82
      go_wp2
      go_ret
      exact ⟨ret_int (by rw [hc.out]), (Below.refl _ _).alloc (Nat.le_refl _) _⟩
  have hne := not_nil h3
  have hne2 : b.toList.isEmpty = false := by simpa using hne
  cases hi : isName b.data.toList
  · have hc := Lib.hid (check_bad (r := ⟨n, b, v⟩) (fun h => by have := h.2.2.1; simp only at this; rcases this with h | h; exact h3 h; rw [hi] at h; cases h))
    go_enter Tryz.func82, Tryz.ntmps82
    go_wp2_with fail
    refine (is_any _ _ hb'.out).mono ?_
    rw [hi]
    rintro e w1 ⟨rfl, hbe⟩
    have hlow := Lib.hid (((Below.refl _ _).alloc (Nat.le_refl _) _).trans (hbe.mono (by simp)))
    clear hbe hB
    go_wp2
    go_ret
    exact ⟨ret_int (by rw [hc.out]), hlow.out⟩
  · by_cases h4 : 256 < v.size
    · have hc := Lib.hid (check_bad (r := ⟨n, b, v⟩) (fun h => by have := h.2.2.2; simp only at this; omega))
      go_enter Tryz.func82, Tryz.ntmps82
      go_wp2_with fail
      refine (is_any _ _ hb'.out).mono ?_
      rw [hi]
      rintro e w1 ⟨rfl, hbe⟩
      have hlow := Lib.hid (((Below.refl _ _).alloc (Nat.le_refl _) _).trans (hbe.mono (by simp)))
      have h5 := hB.below hbe hB.lt
      have c2 : w1.cell? ⟨W.heap.size, 2, none⟩ = some (.string v) := by rw [h5.cell]; rfl
      clear hbe hB h5
      go_wp2
      go_ret
      exact ⟨ret_int (by rw [hc.out]), hlow.out⟩
    · have hc := Lib.hid (check_ok (r := ⟨n, b, v⟩) ⟨by simp only; omega, by simp only; omega, .inr hi, by simp only; omega⟩)
      go_enter Tryz.func82, Tryz.ntmps82
      go_wp2_with fail
      refine (is_any _ _ hb'.out).mono ?_
      rw [hi]
      rintro e w1 ⟨rfl, hbe⟩
      have hlow := Lib.hid (((Below.refl _ _).alloc (Nat.le_refl _) _).trans (hbe.mono (by simp)))
      have h5 := hB.below hbe hB.lt
      have c2 : w1.cell? ⟨W.heap.size, 2, none⟩ = some (.string v) := by rw [h5.cell]; rfl
      clear hbe hB h5
      go_wp2
      go_ret
      exact ⟨ret_int (by rw [hc.out]), hlow.out⟩
def Rg.zero : Rg := ⟨0, ByteArray.empty, ByteArray.empty⟩
def Rg.isZero (r : Rg) : Prop := r.n = 0 ∧ r.by_.toList = [] ∧ r.value.toList = []
instance (r : Rg) : Decidable r.isZero := by unfold Rg.isZero; infer_instance
def Rg.next (a : Rg) (s t : ByteArray) : Rg × Int :=
  if (¬ a.isZero ∧ ¬ a.may) ∨ isName s.data.toList = false ∨ 256 < t.size then (Rg.zero, 1) else if a.n = 9007199254740992 then (Rg.zero, 4) else (⟨a.n + 1, s, t⟩, 0)
structure MX (W : World) (B : Nat) (n : Int) (b v : ByteArray) (w' : World) : Prop where
  b0 : Blk w' (B) 36 #[.int .i64 n, .string b, .string v]
  b1 : Blk w' (B + 1) 36 #[.int .i64 0, .string ByteArray.empty, .string ByteArray.empty]
  low : Below (B) W w'
theorem MX.of {W : World} {B : Nat} {n : Int} {b v : ByteArray} {w' : World} (h : MX W B n b v w') : w'.cell? ⟨B, 0, none⟩ = some (.int .i64 n) ∧ w'.cell? ⟨B, 1, none⟩ = some (.string b) ∧ w'.cell? ⟨B, 2, none⟩ = some (.string v) ∧ w'.cell? ⟨B + 1, 0, none⟩ = some (.int .i64 0) ∧ w'.cell? ⟨B + 1, 1, none⟩ = some (.string ByteArray.empty) ∧ w'.cell? ⟨B + 1, 2, none⟩ = some (.string ByteArray.empty) ∧ Hid (MX W B n b v w') :=
  ⟨by rw [h.b0.cell]; rfl, by rw [h.b0.cell]; rfl, by rw [h.b0.cell]; rfl, by rw [h.b1.cell]; rfl, by rw [h.b1.cell]; rfl, by rw [h.b1.cell]; rfl, h⟩
theorem MX.step0 {W : World} {B : Nat} {n : Int} {b v : ByteArray} {W0 w' : World} (hb : Below W0.heap.size W0 w') (h : MX W B n b v W0) : MX W B n b v w' :=
  ⟨h.b0.below hb h.b0.lt, h.b1.below hb h.b1.lt, h.low.trans (hb.mono (by have := h.b0.lt; have := h.low.size; omega))⟩
theorem MX.step {W : World} {B : Nat} {n : Int} {b v : ByteArray} {W0 w' : World} (hb : Below W0.heap.size W0 w') (h : Hid (MX W B n b v W0)) : w'.cell? ⟨B, 0, none⟩ = some (.int .i64 n) ∧ w'.cell? ⟨B, 1, none⟩ = some (.string b) ∧ w'.cell? ⟨B, 2, none⟩ = some (.string v) ∧ w'.cell? ⟨B + 1, 0, none⟩ = some (.int .i64 0) ∧ w'.cell? ⟨B + 1, 1, none⟩ = some (.string ByteArray.empty) ∧ w'.cell? ⟨B + 1, 2, none⟩ = some (.string ByteArray.empty) ∧ Hid (MX W B n b v w') :=
  MX.of (MX.step0 hb h)
theorem MX.drew {W : World} {B : Nat} {n : Int} {b v : ByteArray} {W0 : World} (h : Hid (MX W B n b v W0)) : W0.drew.cell? ⟨B, 0, none⟩ = some (.int .i64 n) ∧ W0.drew.cell? ⟨B, 1, none⟩ = some (.string b) ∧ W0.drew.cell? ⟨B, 2, none⟩ = some (.string v) ∧ W0.drew.cell? ⟨B + 1, 0, none⟩ = some (.int .i64 0) ∧ W0.drew.cell? ⟨B + 1, 1, none⟩ = some (.string ByteArray.empty) ∧ W0.drew.cell? ⟨B + 1, 2, none⟩ = some (.string ByteArray.empty) ∧ Hid (MX W B n b v W0.drew) :=
  MX.of ⟨h.b0, h.b1, h.low.drew⟩
theorem MX.alloc {W : World} {B : Nat} {n : Int} {b v : ByteArray} {W0 : World} (h : Hid (MX W B n b v W0)) (x : Obj) : (W0.alloc x).cell? ⟨B, 0, none⟩ = some (.int .i64 n) ∧ (W0.alloc x).cell? ⟨B, 1, none⟩ = some (.string b) ∧ (W0.alloc x).cell? ⟨B, 2, none⟩ = some (.string v) ∧ (W0.alloc x).cell? ⟨B + 1, 0, none⟩ = some (.int .i64 0) ∧ (W0.alloc x).cell? ⟨B + 1, 1, none⟩ = some (.string ByteArray.empty) ∧ (W0.alloc x).cell? ⟨B + 1, 2, none⟩ = some (.string ByteArray.empty) ∧ Hid (MX W B n b v (W0.alloc x)) :=
  MX.of ⟨h.b0.alloc x, h.b1.alloc x, h.low.alloc (by have := h.b0.lt; have := h.low.size; omega) x⟩
theorem MX.new (W : World) (n : Int) (b v : ByteArray) : MX W W.heap.size n b v ((W.alloc (.cells #[.int .i64 n, .string b, .string v] 36)).alloc (.cells #[.int .i64 0, .string ByteArray.empty, .string ByteArray.empty] 36)) :=
  ⟨(Blk.new _ _ _).alloc _, by simpa using Blk.new (W.alloc (.cells #[.int .i64 n, .string b, .string v] 36)) 36 #[.int .i64 0, .string ByteArray.empty, .string ByteArray.empty], ((Below.refl _ _).alloc (Nat.le_refl _) _).alloc (by simp) _⟩
theorem bel3 {W w1 : World} (h : Below W.heap.size W w1) (x y z : Value) : Below W.heap.size W (((w1.setCell ⟨W.heap.size + 1, 0, none⟩ x).setCell ⟨W.heap.size + 1, 1, none⟩ y).setCell ⟨W.heap.size + 1, 2, none⟩ z) :=
  ((h.setCell (p := ⟨W.heap.size + 1, 0, none⟩) (by simp) _).setCell (p := ⟨W.heap.size + 1, 1, none⟩) (by simp) _).setCell (p := ⟨W.heap.size + 1, 2, none⟩) (by simp) _
set_option maxHeartbeats 4000000 in
theorem next_any (a : Rg) (s t : ByteArray) (W : World) (hb : a.by_.size ≤ maxLen) (hv : a.value.size ≤ maxLen) (hs : s.size ≤ maxLen) (ht : t.size ≤ maxLen) :
    Calls Tryz.prog 60 #[a.val, .string s, .string t] W fun e w' => e = .returned (.tuple #[(a.next s t).1.val, .int .i64 (a.next s t).2]) ∧ Below W.heap.size W w' := by
  obtain ⟨n, b, v⟩ := a
  simp only at hb hv
  have HB := Lib.hid hb
  have HV := Lib.hid hv
  have HS := Lib.hid hs
  clear hb hv hs
  unfold maxLen at ht
  show Calls Tryz.prog 60 #[.agg #[.int .i64 n, .string b, .string v], .string s, .string t] W _
  have hM := MX.new W n b v
  by_cases hz : n = 0 ∧ b.toList = [] ∧ v.toList = []
  · obtain ⟨rfl, hz2, hz3⟩ := hz
    cases hi : isName s.data.toList
    · have hc := Lib.hid (show Rg.next ⟨0, b, v⟩ s t = (Rg.zero, 1) from if_pos (.inr (.inl hi)))
      go_enter Tryz.func60, Tryz.ntmps60
      go_wp2_with fail
      refine (is_any _ _ HS.out).mono ?_
      rw [hi]
      rintro e w1 ⟨rfl, hbe⟩
      have hM1 := MX.step0 hbe hM
      obtain ⟨-, -, -, d0, d1, d2, -⟩ := MX.of hM1
      have f0 := hM1.b1.frozen 0; have f1 := hM1.b1.frozen 1; have f2 := hM1.b1.frozen 2
      have hlow := Lib.hid hM1.low
      clear hbe hM1 hM
      go_wp2
      exact bodyPost_ret (v := .tuple #[.agg #[.int .i64 0, .string ByteArray.empty, .string ByteArray.empty], .int .i64 1]) (by simp [results, Tryz.results60, go_sem, d0, d1, d2] <;> rfl) rfl ⟨by rw [hc.out]; rfl, bel3 hlow.out _ _ _⟩
    · by_cases h4 : 256 < t.size
      · have hc := Lib.hid (show Rg.next ⟨0, b, v⟩ s t = (Rg.zero, 1) from if_pos (.inr (.inr h4)))
        go_enter Tryz.func60, Tryz.ntmps60
        go_wp2_with fail
        refine (is_any _ _ HS.out).mono ?_
        rw [hi]
        rintro e w1 ⟨rfl, hbe⟩
        have hM1 := MX.step0 hbe hM
        obtain ⟨-, -, -, d0, d1, d2, -⟩ := MX.of hM1
        have f0 := hM1.b1.frozen 0; have f1 := hM1.b1.frozen 1; have f2 := hM1.b1.frozen 2
        have hlow := Lib.hid hM1.low
        clear hbe hM1 hM
        go_wp2
        exact bodyPost_ret (v := .tuple #[.agg #[.int .i64 0, .string ByteArray.empty, .string ByteArray.empty], .int .i64 1]) (by simp [results, Tryz.results60, go_sem, d0, d1, d2] <;> rfl) rfl ⟨by rw [hc.out]; rfl, bel3 hlow.out _ _ _⟩
      · have hc := Lib.hid (show Rg.next ⟨0, b, v⟩ s t = (⟨0 + 1, s, t⟩, 0) from (if_neg (by rintro (⟨h, -⟩ | h | h); exact h ⟨rfl, hz2, hz3⟩; rw [hi] at h; cases h; exact h4 h)).trans (if_neg (by simp)))
        go_enter Tryz.func60, Tryz.ntmps60
        go_wp2_with fail
        refine (is_any _ _ HS.out).mono ?_
        rw [hi]
        rintro e w1 ⟨rfl, hbe⟩
        have hM1 := MX.step0 hbe hM
        obtain ⟨c0, -, -, d0, d1, d2, -⟩ := MX.of hM1
        have f0 := hM1.b1.frozen 0; have f1 := hM1.b1.frozen 1; have f2 := hM1.b1.frozen 2
        have hlow := Lib.hid hM1.low
        clear hbe hM1 hM
        go_wp2
        exact bodyPost_ret (v := .tuple #[.agg #[.int .i64 1, .string s, .string t], .int .i64 0]) (by simp [results, Tryz.results60, go_sem, d0, d1, d2]) rfl ⟨by rw [hc.out]; rfl, bel3 hlow.out _ _ _⟩
  · have hz0 := Lib.hid hz
    have hcase : (¬ n = 0) ∨ (n = 0 ∧ ¬ b.toList = []) ∨ (n = 0 ∧ b.toList = [] ∧ ¬ v.toList = []) := by
      by_cases h1 : n = 0
      · by_cases h2 : b.toList = []
        · exact .inr (.inr ⟨h1, h2, fun h3 => hz ⟨h1, h2, h3⟩⟩)
        · exact .inr (.inl ⟨h1, h2⟩)
      · exact .inl h1
    clear hz
    by_cases hm : Rg.may ⟨n, b, v⟩
    · have hk := Lib.hid (check_ok hm)
      have hm1 := hm.1; have hm2 := hm.2.1
      simp only at hm1 hm2
      have HM := Lib.hid hm
      clear hm
      have h1 : ¬ n = 0 := by omega
      clear hcase
      by_cases hi : isName s.data.toList = true ∧ ¬ 256 < t.size
      · obtain ⟨hi, h4⟩ := hi
        by_cases h5 : n = 9007199254740992
        · have hc := Lib.hid (show Rg.next ⟨n, b, v⟩ s t = (Rg.zero, 4) from (if_neg (by rintro (⟨-, h⟩ | h | h); exact h HM.out; rw [hi] at h; cases h; exact h4 h)).trans (if_pos h5))
          subst h5
          go_enter Tryz.func60, Tryz.ntmps60
          go_wp2_with fail
          refine (check_any ⟨_, b, v⟩ _ HB.out HV.out).mono ?_
          rw [hk.out]
          rintro e w0 ⟨rfl, hbe⟩
          have hM0 := MX.step0 hbe hM
          clear hbe hM
          go_wp2_with fail
          refine (is_any _ _ HS.out).mono ?_
          rw [hi]
          rintro e w1 ⟨rfl, hbe⟩
          have hM1 := MX.step0 hbe hM0
          obtain ⟨c0, -, -, d0, d1, d2, -⟩ := MX.of hM1
          have f0 := hM1.b1.frozen 0; have f1 := hM1.b1.frozen 1; have f2 := hM1.b1.frozen 2
          have hlow := Lib.hid hM1.low
          clear hbe hM1 hM0
          go_wp2
          exact bodyPost_ret (v := .tuple #[.agg #[.int .i64 0, .string ByteArray.empty, .string ByteArray.empty], .int .i64 4]) (by simp [results, Tryz.results60, go_sem, d0, d1, d2] <;> rfl) rfl ⟨by rw [hc.out]; rfl, bel3 hlow.out _ _ _⟩
        · have hc := Lib.hid (show Rg.next ⟨n, b, v⟩ s t = (⟨n + 1, s, t⟩, 0) from (if_neg (by rintro (⟨-, h⟩ | h | h); exact h HM.out; rw [hi] at h; cases h; exact h4 h)).trans (if_neg h5))
          go_enter Tryz.func60, Tryz.ntmps60
          go_wp2_with fail
          refine (check_any ⟨_, b, v⟩ _ HB.out HV.out).mono ?_
          rw [hk.out]
          rintro e w0 ⟨rfl, hbe⟩
          have hM0 := MX.step0 hbe hM
          clear hbe hM
          go_wp2_with fail
          refine (is_any _ _ HS.out).mono ?_
          rw [hi]
          rintro e w1 ⟨rfl, hbe⟩
          have hM1 := MX.step0 hbe hM0
          obtain ⟨c0, -, -, d0, d1, d2, -⟩ := MX.of hM1
          have f0 := hM1.b1.frozen 0; have f1 := hM1.b1.frozen 1; have f2 := hM1.b1.frozen 2
          have hlow := Lib.hid hM1.low
          clear hbe hM1 hM0
          go_wp2
          exact bodyPost_ret (v := .tuple #[.agg #[.int .i64 (n + 1), .string s, .string t], .int .i64 0]) (by simp [results, Tryz.results60, go_sem, d0, d1, d2]) rfl ⟨by rw [hc.out], bel3 hlow.out _ _ _⟩
      · have hc := Lib.hid (show Rg.next ⟨n, b, v⟩ s t = (Rg.zero, 1) from if_pos (by
          by_cases h : isName s.data.toList = true
          · exact .inr (.inr (Classical.byContradiction fun h' => hi ⟨h, h'⟩))
          · exact .inr (.inl (by simpa using h))))
        cases hj : isName s.data.toList
        · go_enter Tryz.func60, Tryz.ntmps60
          go_wp2_with fail
          refine (check_any ⟨_, b, v⟩ _ HB.out HV.out).mono ?_
          rw [hk.out]
          rintro e w0 ⟨rfl, hbe⟩
          have hM0 := MX.step0 hbe hM
          clear hbe hM
          go_wp2_with fail
          refine (is_any _ _ HS.out).mono ?_
          rw [hj]
          rintro e w1 ⟨rfl, hbe⟩
          have hM1 := MX.step0 hbe hM0
          obtain ⟨c0, -, -, d0, d1, d2, -⟩ := MX.of hM1
          have f0 := hM1.b1.frozen 0; have f1 := hM1.b1.frozen 1; have f2 := hM1.b1.frozen 2
          have hlow := Lib.hid hM1.low
          clear hbe hM1 hM0
          go_wp2
          exact bodyPost_ret (v := .tuple #[.agg #[.int .i64 0, .string ByteArray.empty, .string ByteArray.empty], .int .i64 1]) (by simp [results, Tryz.results60, go_sem, d0, d1, d2] <;> rfl) rfl ⟨by rw [hc.out]; rfl, bel3 hlow.out _ _ _⟩
        · have h4 : 256 < t.size := Classical.byContradiction fun h' => hi ⟨hj, h'⟩
          clear hi
          go_enter Tryz.func60, Tryz.ntmps60
          go_wp2_with fail
          refine (check_any ⟨_, b, v⟩ _ HB.out HV.out).mono ?_
          rw [hk.out]
          rintro e w0 ⟨rfl, hbe⟩
          have hM0 := MX.step0 hbe hM
          clear hbe hM
          go_wp2_with fail
          refine (is_any _ _ HS.out).mono ?_
          rw [hj]
          rintro e w1 ⟨rfl, hbe⟩
          have hM1 := MX.step0 hbe hM0
          obtain ⟨c0, -, -, d0, d1, d2, -⟩ := MX.of hM1
          have f0 := hM1.b1.frozen 0; have f1 := hM1.b1.frozen 1; have f2 := hM1.b1.frozen 2
          have hlow := Lib.hid hM1.low
          clear hbe hM1 hM0
          go_wp2
          exact bodyPost_ret (v := .tuple #[.agg #[.int .i64 0, .string ByteArray.empty, .string ByteArray.empty], .int .i64 1]) (by simp [results, Tryz.results60, go_sem, d0, d1, d2] <;> rfl) rfl ⟨by rw [hc.out]; rfl, bel3 hlow.out _ _ _⟩
    · have hk := Lib.hid (check_bad hm)
      have hc := Lib.hid (show Rg.next ⟨n, b, v⟩ s t = (Rg.zero, 1) from if_pos (.inl ⟨hz0.out, hm⟩))
      clear hm
      rcases hcase with h1 | ⟨rfl, h1⟩ | ⟨rfl, h1, h2⟩
      all_goals
        go_enter Tryz.func60, Tryz.ntmps60
        go_wp2_with fail
        refine (check_any ⟨_, b, v⟩ _ HB.out HV.out).mono ?_
        rw [hk.out]
        rintro e w1 ⟨rfl, hbe⟩
        have hM1 := MX.step0 hbe hM
        obtain ⟨-, -, -, d0, d1, d2, -⟩ := MX.of hM1
        have f0 := hM1.b1.frozen 0; have f1 := hM1.b1.frozen 1; have f2 := hM1.b1.frozen 2
        have hlow := Lib.hid hM1.low
        clear hbe hM1 hM
        go_wp2
        exact bodyPost_ret (v := .tuple #[.agg #[.int .i64 0, .string ByteArray.empty, .string ByteArray.empty], .int .i64 1]) (by simp [results, Tryz.results60, go_sem, d0, d1, d2] <;> rfl) rfl ⟨by rw [hc.out]; rfl, bel3 hlow.out _ _ _⟩
end Go.Proofs.YtjbompimlopdiaaGreatDoor.reg
