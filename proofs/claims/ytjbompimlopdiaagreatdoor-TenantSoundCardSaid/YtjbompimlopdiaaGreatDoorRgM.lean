/- Plain facts: entries in the order of their keys are told by what each key has. -/
import Derived.Test.YtjbompimlopdiaaGreatDoorRgL
namespace Go.Proofs.YtjbompimlopdiaaGreatDoor.rgy
open Go.ChangeShapes Go.WideShapes Go.ChangeAt Go.RowKit Go.Proofs.Aid Go.Proofs.YtjbompimlopdiaaGreatDoor.name Go.Proofs.YtjbompimlopdiaaGreatDoor.reg
theorem less_cmp : ∀ (a b : List UInt8), Op.bytesLess a b = decide (Lib.compareBytes a b < 0)
  | [], [] => by simp [Op.bytesLess, Lib.compareBytes]
  | [], _ :: _ => by simp [Op.bytesLess, Lib.compareBytes]
  | _ :: _, [] => by simp [Op.bytesLess, Lib.compareBytes]
  | a :: l, b :: m => by
    have ih := less_cmp l m
    unfold Op.bytesLess Lib.compareBytes
    by_cases h1 : a < b
    · simp [h1]
    · by_cases h2 : b < a
      · have h3 : ¬ a = b := fun e => by subst e; exact h1 h2
        simp [h1, h2, h3]
      · have h3 : a = b := by
          apply UInt8.le_antisymm
          · exact UInt8.not_lt.mp h2
          · exact UInt8.not_lt.mp h1
        subst h3
        simp only [h1, if_false, decide_false, Bool.false_or, beq_self_eq_true, Bool.true_and]
        rw [← ih]
theorem lt_iff {a b : ByteArray} : lt a b = true ↔ Lib.compareBytes a.toList b.toList < 0 := by unfold lt; rw [less_cmp, decide_eq_true_eq]
theorem lt_irr (a : ByteArray) : lt a a = false := by rw [Bool.eq_false_iff, Ne, lt_iff, cb_self]; omega
theorem lt_tr {a b c : ByteArray} (h1 : lt a b = true) (h2 : lt b c = true) : lt a c = true := by
  rw [lt_iff] at *
  have h3 := cb_swap a.toList b.toList
  have h4 := cb_swap b.toList c.toList
  have h5 := cb_swap a.toList c.toList
  have h6 := cb_trans c.toList b.toList a.toList (by omega) (by omega)
  have h7 := h6.2
  by_cases e : Lib.compareBytes c.toList a.toList = 0
  · have := h7 e; omega
  · omega
theorem lt_tot {a b : ByteArray} (h1 : lt a b = false) (h2 : lt b a = false) : a = b := by
  rw [Bool.eq_false_iff, Ne, lt_iff] at h1 h2
  have h3 := cb_swap a.toList b.toList
  exact data_eq (cb_eq _ _ (by omega))
theorem lt_asy {a b : ByteArray} (h : lt a b = true) : lt b a = false := by
  cases e : lt b a with
  | false => rfl
  | true => have := lt_tr h e; rw [lt_irr] at this; cases this
theorem lt_ne {a b : ByteArray} (h : lt a b = true) : a ≠ b := fun e => by subst e; rw [lt_irr] at h; cases h
def srt (l : List En) : Prop := l.Pairwise fun x y => lt x.key y.key = true
theorem okAt_get {l : List En} {i : Nat} (h : i < l.length) : okAt l i = (isEntry l[i] && (decide (i = 0) || lt l[i - 1].key l[i].key)) := okAt_eq2 h (by omega)
theorem may_iff {l : List En} : may l = true ↔ l.length ≤ 4096 ∧ (∀ x ∈ l, isEntry x = true) ∧ srt l := by
  constructor
  · intro h
    unfold may at h
    rw [Bool.and_eq_true, decide_eq_true_eq, List.all_eq_true] at h
    obtain ⟨h1, h2⟩ := h
    have h3 : ∀ i (hi : i < l.length), isEntry l[i] = true ∧ (i = 0 ∨ lt l[i - 1].key l[i].key = true) := fun i hi => by
      have := h2 i (by simpa using hi)
      rw [okAt_get hi, Bool.and_eq_true, Bool.or_eq_true, decide_eq_true_eq] at this
      exact this
    refine ⟨h1, fun x hx => ?_, ?_⟩
    · obtain ⟨i, hi, rfl⟩ := List.getElem_of_mem hx
      exact (h3 i hi).1
    · unfold srt
      rw [List.pairwise_iff_getElem]
      intro i j hi hj hij
      obtain ⟨d, rfl⟩ : ∃ d, j = i + 1 + d := ⟨j - i - 1, by omega⟩
      clear hij
      induction d with
      | zero =>
        rcases (h3 (i + 1) hj).2 with h | h
        · omega
        · simpa using h
      | succ d ih =>
        have h4 := ih (by omega)
        rcases (h3 (i + 1 + (d + 1)) hj).2 with h | h
        · omega
        · exact lt_tr h4 (by simpa [show i + 1 + (d + 1) - 1 = i + 1 + d by omega] using h)
  · rintro ⟨h1, h2, h3⟩
    refine may_yes h1 fun i hi => ?_
    rw [okAt_get hi, h2 _ (List.getElem_mem hi), Bool.true_and, Bool.or_eq_true, decide_eq_true_eq]
    by_cases h0 : i = 0
    · exact .inl h0
    · refine .inr ?_
      unfold srt at h3
      rw [List.pairwise_iff_getElem] at h3
      exact h3 (i - 1) i (by omega) hi (by omega)
theorem look_cons (x : En) (l : List En) (k : ByteArray) : look (x :: l) k = if x.key = k then some x.reg else look l k := by
  unfold look; rw [List.find?_cons]
  by_cases h : x.key = k <;> simp [h]
theorem look_nil (k : ByteArray) : look [] k = none := rfl
theorem look_mem {l : List En} {k : ByteArray} {r : Rg} (h : look l k = some r) : ⟨k, r⟩ ∈ l := by
  induction l with
  | nil => cases h
  | cons x l ih =>
    rw [look_cons] at h
    by_cases e : x.key = k
    · rw [if_pos e] at h; injection h with h; subst h; subst e; exact List.mem_cons_self
    · rw [if_neg e] at h; exact List.mem_cons_of_mem _ (ih h)
theorem look_lt {l : List En} {k : ByteArray} (h : ∀ x ∈ l, lt k x.key = true) : look l k = none := by
  cases e : look l k with
  | none => rfl
  | some r => have := h _ (look_mem e); rw [lt_irr] at this; cases this
theorem srt_cons {x : En} {l : List En} : srt (x :: l) ↔ (∀ y ∈ l, lt x.key y.key = true) ∧ srt l := List.pairwise_cons
theorem look_low {x : En} {l : List En} {k : ByteArray} (h : srt (x :: l)) (hk : lt k x.key = true) : look (x :: l) k = none :=
  look_lt fun y hy => by
    rcases List.mem_cons.1 hy with rfl | hy
    · exact hk
    · exact lt_tr hk ((srt_cons.1 h).1 y hy)
theorem look_own {x : En} {l : List En} (h : srt (x :: l)) : look l x.key = none := look_lt (srt_cons.1 h).1
theorem mem_look {l : List En} {x : En} (h : srt l) (hx : x ∈ l) : look l x.key = some x.reg := by
  induction l with
  | nil => cases hx
  | cons y l ih =>
    rw [look_cons]
    rcases List.mem_cons.1 hx with rfl | hx
    · rw [if_pos rfl]
    · rw [if_neg (lt_ne ((srt_cons.1 h).1 x hx)), ih (srt_cons.1 h).2 hx]
theorem ext_look : ∀ {l m : List En}, srt l → srt m → (∀ k, look l k = look m k) → l = m
  | [], [], _, _, _ => rfl
  | [], y :: m, _, _, h => by have := h y.key; rw [look_cons, if_pos rfl, look_nil] at this; cases this
  | x :: l, [], _, _, h => by have := h x.key; rw [look_cons, if_pos rfl, look_nil] at this; cases this
  | x :: l, y :: m, hl, hm, h => by
    have hk : x.key = y.key := by
      apply lt_tot
      · cases e : lt x.key y.key with
        | false => rfl
        | true => have := h x.key; rw [look_cons, if_pos rfl, look_low hm e] at this; cases this
      · cases e : lt y.key x.key with
        | false => rfl
        | true => have := h y.key; rw [look_low hl e, look_cons, if_pos rfl] at this; cases this
    have hr : x.reg = y.reg := by
      have := h x.key
      rw [look_cons, if_pos rfl, look_cons, if_pos hk.symm] at this
      injection this
    have hxy : x = y := by cases x; cases y; simp only at hk hr; rw [hk, hr]
    subst hxy
    rw [ext_look (srt_cons.1 hl).2 (srt_cons.1 hm).2 fun k => by
      by_cases e : x.key = k
      · subst e; rw [look_own hl, look_own hm]
      · have := h k; rwa [look_cons, look_cons, if_neg e, if_neg e] at this]
def jo : Option Rg → Option Rg → Option Rg
  | none, y => y
  | some x, none => some x
  | some x, some y => some (x.join y)
theorem jo_none (x : Option Rg) : jo x none = x := by cases x <;> rfl
theorem merge_mem : ∀ (p q : List En) (z : En), z ∈ merge p q → (∃ x ∈ p, z.key = x.key ∧ (z.reg = x.reg ∨ ∃ y ∈ q, y.key = z.key ∧ z.reg = x.reg.join y.reg)) ∨ z ∈ q
  | [], q, z, h => by rw [merge_nil] at h; exact .inr h
  | x :: p, [], z, h => by rw [merge_right] at h; exact .inl ⟨z, h, rfl, .inl rfl⟩
  | x :: p, y :: q, z, h => by
    cases h1 : lt x.key y.key with
    | true =>
      rw [merge_lt h1] at h
      rcases List.mem_cons.1 h with rfl | h
      · exact .inl ⟨z, List.mem_cons_self, rfl, .inl rfl⟩
      · rcases merge_mem p (y :: q) z h with ⟨x', hx', e⟩ | h
        · exact .inl ⟨x', List.mem_cons_of_mem _ hx', e⟩
        · exact .inr h
    | false =>
      cases h2 : lt y.key x.key with
      | true =>
        rw [merge_gt h1 h2] at h
        rcases List.mem_cons.1 h with rfl | h
        · exact .inr List.mem_cons_self
        · rcases merge_mem (x :: p) q z h with ⟨x', hx', e, e2⟩ | h
          · refine .inl ⟨x', hx', e, ?_⟩
            rcases e2 with e2 | ⟨y', hy', e3⟩
            · exact .inl e2
            · exact .inr ⟨y', List.mem_cons_of_mem _ hy', e3⟩
          · exact .inr (List.mem_cons_of_mem _ h)
      | false =>
        have hk := lt_tot h1 h2
        rw [merge_eq h1 h2] at h
        rcases List.mem_cons.1 h with rfl | h
        · exact .inl ⟨x, List.mem_cons_self, rfl, .inr ⟨y, List.mem_cons_self, hk.symm, rfl⟩⟩
        · rcases merge_mem p q z h with ⟨x', hx', e, e2⟩ | h
          · refine .inl ⟨x', List.mem_cons_of_mem _ hx', e, ?_⟩
            rcases e2 with e2 | ⟨y', hy', e3⟩
            · exact .inl e2
            · exact .inr ⟨y', List.mem_cons_of_mem _ hy', e3⟩
          · exact .inr (List.mem_cons_of_mem _ h)
termination_by p q => p.length + q.length
theorem merge_low {k : ByteArray} {p q : List En} (hp : ∀ x ∈ p, lt k x.key = true) (hq : ∀ x ∈ q, lt k x.key = true) : ∀ z ∈ merge p q, lt k z.key = true := fun z hz => by
  rcases merge_mem p q z hz with ⟨x, hx, e, _⟩ | h
  · rw [e]; exact hp x hx
  · exact hq z h
theorem merge_srt : ∀ {p q : List En}, srt p → srt q → srt (merge p q)
  | [], q, _, hq => by rw [merge_nil]; exact hq
  | x :: p, [], hp, _ => by rw [merge_right]; exact hp
  | x :: p, y :: q, hp, hq => by
    have hp' := srt_cons.1 hp
    have hq' := srt_cons.1 hq
    cases h1 : lt x.key y.key with
    | true =>
      rw [merge_lt h1, srt_cons]
      exact ⟨merge_low hp'.1 (fun z hz => by rcases List.mem_cons.1 hz with rfl | hz; exact h1; exact lt_tr h1 (hq'.1 z hz)), merge_srt hp'.2 hq⟩
    | false =>
      cases h2 : lt y.key x.key with
      | true =>
        rw [merge_gt h1 h2, srt_cons]
        exact ⟨merge_low (fun z hz => by rcases List.mem_cons.1 hz with rfl | hz; exact h2; exact lt_tr h2 (hp'.1 z hz)) hq'.1, merge_srt hp hq'.2⟩
      | false =>
        have hk := lt_tot h1 h2
        rw [merge_eq h1 h2, srt_cons]
        exact ⟨merge_low hp'.1 (fun z hz => by rw [hk]; exact hq'.1 z hz), merge_srt hp'.2 hq'.2⟩
termination_by p q => p.length + q.length
theorem merge_look : ∀ {p q : List En} (k : ByteArray), srt p → srt q → look (merge p q) k = jo (look p k) (look q k)
  | [], q, k, _, _ => by rw [merge_nil]; rfl
  | x :: p, [], k, _, _ => by rw [merge_right, look_nil, jo_none]
  | x :: p, y :: q, k, hp, hq => by
    have hp' := srt_cons.1 hp
    have hq' := srt_cons.1 hq
    cases h1 : lt x.key y.key with
    | true =>
      rw [merge_lt h1, look_cons, merge_look k hp'.2 hq, look_cons x p]
      by_cases e : x.key = k
      · subst e; rw [if_pos rfl, if_pos rfl, look_low hq h1]; rfl
      · rw [if_neg e, if_neg e]
    | false =>
      cases h2 : lt y.key x.key with
      | true =>
        rw [merge_gt h1 h2, look_cons, merge_look k hp hq'.2, look_cons y q]
        by_cases e : y.key = k
        · subst e; rw [if_pos rfl, if_pos rfl, look_low hp h2]; rfl
        · rw [if_neg e, if_neg e]
      | false =>
        have hk := lt_tot h1 h2
        rw [merge_eq h1 h2, look_cons, merge_look k hp'.2 hq'.2, look_cons x p, look_cons y q]
        by_cases e : x.key = k
        · rw [if_pos e, if_pos e, if_pos (hk ▸ e)]; rfl
        · rw [if_neg e, if_neg e, if_neg (hk ▸ e)]
termination_by p q => p.length + q.length
theorem merge_len : ∀ (p q : List En), (merge p q).length ≤ p.length + q.length
  | [], q => by rw [merge_nil]; simp
  | x :: p, [] => by rw [merge_right]; simp
  | x :: p, y :: q => by
    cases h1 : lt x.key y.key with
    | true =>
      rw [merge_lt h1]
      have := merge_len p (y :: q)
      simp only [List.length_cons] at *; omega
    | false =>
      cases h2 : lt y.key x.key with
      | true =>
        rw [merge_gt h1 h2]
        have := merge_len (x :: p) q
        simp only [List.length_cons] at *; omega
      | false =>
        rw [merge_eq h1 h2]
        have := merge_len p q
        simp only [List.length_cons] at *; omega
termination_by p q => p.length + q.length
theorem join_or (a b : Rg) : a.join b = a ∨ a.join b = b := by unfold Rg.join; split <;> simp
theorem merge_prop {P : En → Prop} (hP : ∀ k r r', P ⟨k, r⟩ → P ⟨k, r'⟩ → P ⟨k, r.join r'⟩) {p q : List En} (hp : ∀ x ∈ p, P x) (hq : ∀ x ∈ q, P x) : ∀ z ∈ merge p q, P z := fun z hz => by
  rcases merge_mem p q z hz with ⟨x, hx, e, h⟩ | h
  · have hx' := hp x hx
    obtain ⟨zk, zr⟩ := z
    obtain ⟨xk, xr⟩ := x
    simp only at e h
    subst e
    rcases h with h | ⟨⟨yk, yr⟩, hy, e2, h⟩
    · rw [h]; exact hx'
    · simp only at e2 h
      subst e2
      rw [h]; exact hP _ _ _ hx' (hq _ hy)
  · exact hq z h
theorem merge_sz {p q : List En} (hp : ∀ x ∈ p, x.sz) (hq : ∀ x ∈ q, x.sz) : ∀ z ∈ merge p q, z.sz :=
  merge_prop (fun k r r' h h' => by rcases join_or r r' with e | e <;> simp only [e]; exact h; exact h') hp hq
theorem merge_entry {p q : List En} (hp : ∀ x ∈ p, isEntry x = true) (hq : ∀ x ∈ q, isEntry x = true) : ∀ z ∈ merge p q, isEntry z = true :=
  merge_prop (P := fun x => isEntry x = true) (fun k r r' h h' => by rcases join_or r r' with e | e <;> simp only [e]; exact h; exact h') hp hq
theorem merge_may {p q : List En} (hp : may p = true) (hq : may q = true) (hl : p.length + q.length ≤ 4096) : may (merge p q) = true := by
  rw [may_iff] at *
  exact ⟨by have := merge_len p q; omega, merge_entry hp.2.1 hq.2.1, merge_srt hp.2.2 hq.2.2⟩
theorem jo_swap (x y : Option Rg) : jo x y = jo y x := by
  cases x <;> cases y <;> simp [jo, join_swap]
theorem jo_assoc (x y z : Option Rg) : jo (jo x y) z = jo x (jo y z) := by
  cases x <;> cases y <;> cases z <;> simp [jo, join_assoc]
theorem jo_self (x : Option Rg) : jo x x = x := by cases x <;> simp [jo, join_self]
theorem merge_swap {p q : List En} (hp : srt p) (hq : srt q) : merge p q = merge q p :=
  ext_look (merge_srt hp hq) (merge_srt hq hp) fun k => by rw [merge_look k hp hq, merge_look k hq hp, jo_swap]
theorem merge_self {p : List En} (hp : srt p) : merge p p = p :=
  ext_look (merge_srt hp hp) hp fun k => by rw [merge_look k hp hp, jo_self]
theorem merge_assoc {p q r : List En} (hp : srt p) (hq : srt q) (hr : srt r) : merge (merge p q) r = merge p (merge q r) :=
  ext_look (merge_srt (merge_srt hp hq) hr) (merge_srt hp (merge_srt hq hr)) fun k => by
    rw [merge_look k (merge_srt hp hq) hr, merge_look k hp (merge_srt hq hr), merge_look k hp hq, merge_look k hq hr, jo_assoc]
theorem filter_srt {f : En → Bool} {l : List En} (h : srt l) : srt (l.filter f) := List.Pairwise.filter _ h
theorem filter_look {f : En → Bool} {l : List En} (h : srt l) (k : ByteArray) : look (l.filter f) k = match look l k with | some r => if f ⟨k, r⟩ then some r else none | none => none := by
  induction l with
  | nil => rfl
  | cons x l ih =>
    have h' := srt_cons.1 h
    have ih := ih h'.2
    rw [look_cons]
    by_cases e : x.key = k
    · subst e
      rw [if_pos rfl, List.filter_cons]
      by_cases hf : f x = true
      · have hf' : f ⟨x.key, x.reg⟩ = true := hf
        rw [if_pos hf, look_cons, if_pos rfl]; simp [hf']
      · have hf' : f ⟨x.key, x.reg⟩ = false := by simpa using hf
        rw [if_neg hf, ih, look_own h]; simp [hf']
    · rw [if_neg e, List.filter_cons]
      split
      · rw [look_cons, if_neg e, ih]
      · rw [ih]
theorem comp_zero {r : Rg} (h : r.may) : r.newer Rg.zero = true := by
  obtain ⟨n, b, v⟩ := r
  have h1 := h.1
  simp only at h1
  rw [show Rg.zero = ⟨0, ByteArray.empty, ByteArray.empty⟩ from rfl, newer_n (by omega), decide_eq_true_eq]
  omega
theorem entry_may {l : List En} (h : may l = true) {k : ByteArray} {r : Rg} (hr : look l k = some r) : r.may := by
  have := (may_iff.1 h).2.1 _ (look_mem hr)
  unfold isEntry at this
  rw [Bool.and_eq_true, decide_eq_true_eq] at this
  exact this.2
theorem news_join {a b : List En} (ha : may a = true) (hb : may b = true) : merge b (a.filter (newsP b)) = merge a b := by
  have sa := (may_iff.1 ha).2.2
  have sb := (may_iff.1 hb).2.2
  refine ext_look (merge_srt sb (filter_srt sa)) (merge_srt sa sb) fun k => ?_
  rw [merge_look k sb (filter_srt sa), merge_look k sa sb, filter_look sa k]
  cases hl : look a k with
  | none => simp [jo]; cases look b k <;> rfl
  | some r =>
    have hm := entry_may ha hl
    show jo (look b k) (if r.newer (get b k) = true then some r else none) = jo (some r) (look b k)
    unfold get
    cases hb2 : look b k with
    | none => rw [show (none : Option Rg).getD Rg.zero = Rg.zero from rfl, comp_zero hm]; rfl
    | some s =>
      rw [show (some s).getD Rg.zero = s from rfl]
      by_cases hn : r.newer s = true
      · rw [if_pos hn]; show some (s.join r) = some (r.join s); rw [join_swap]
      · rw [if_neg hn]
        show some s = some (r.join s)
        by_cases e : r = s
        · subst e; rw [join_self]
        · rcases newer_total e with h | h
          · exact absurd h hn
          · rw [join_right h]
theorem news_none {a b : List En} (ha : may a = true) (hb : may b = true) : a.filter (newsP (merge a b)) = [] := by
  have sa := (may_iff.1 ha).2.2
  have sb := (may_iff.1 hb).2.2
  rw [List.filter_eq_nil_iff]
  intro x hx
  have h1 : look a x.key = some x.reg := mem_look sa hx
  have h2 : look (merge a b) x.key = jo (some x.reg) (look b x.key) := by rw [merge_look _ sa sb, h1]
  unfold newsP get
  rw [h2]
  cases look b x.key with
  | none => show ¬ x.reg.newer x.reg = true; rw [newer_self]; simp
  | some s =>
    show ¬ x.reg.newer (x.reg.join s) = true
    by_cases e : x.reg = s
    · rw [← e, join_self, newer_self]; simp
    · rcases newer_total e with h | h
      · rw [join_left h, newer_self]; simp
      · rw [join_right h, newer_swap h]; simp
theorem putE_cons_lt {x y : En} {l : List En} (h : lt y.key x.key = true) : putE (y :: l) x = y :: putE l x := by
  unfold putE putAt pos
  rw [List.takeWhile_cons, if_pos h]
  simp only [List.length_cons, List.take_succ_cons, List.cons_append, List.getElem_cons_succ, List.drop_succ_cons]
  congr 1
  congr 1
  by_cases hl : (l.takeWhile fun e => lt e.key x.key).length < l.length
  · rw [dif_pos (by omega), dif_pos hl]
  · rw [dif_neg (by omega), dif_neg hl]
theorem putE_cons_eq {x y : En} {l : List En} (h : y.key = x.key) : putE (y :: l) x = ⟨x.key, y.reg.join x.reg⟩ :: l := by
  have h' : lt y.key x.key = false := by rw [h]; exact lt_irr _
  unfold putE putAt pos
  rw [List.takeWhile_cons, if_neg (by rw [h']; simp)]
  simp [h]
theorem putE_cons_gt {x y : En} {l : List En} (h : lt x.key y.key = true) : putE (y :: l) x = x :: y :: l := by
  have h' : lt y.key x.key = false := lt_asy h
  unfold putE putAt pos
  rw [List.takeWhile_cons, if_neg (by rw [h']; simp)]
  simp [(lt_ne h).symm]
theorem putE_nil (x : En) : putE [] x = [x] := rfl
/-- One more is put: so it is merged. -/
theorem putE_merge : ∀ {l : List En} (x : En), srt l → putE l x = merge l [x]
  | [], x, _ => by rw [putE_nil, merge_nil]
  | y :: l, x, h => by
    have h' := srt_cons.1 h
    cases h1 : lt y.key x.key with
    | true => rw [putE_cons_lt h1, merge_lt h1, putE_merge x h'.2]
    | false =>
      cases h2 : lt x.key y.key with
      | true => rw [putE_cons_gt h2, merge_gt h1 h2, merge_right]
      | false =>
        have hk := lt_tot h1 h2
        rw [putE_cons_eq hk, merge_eq h1 h2, merge_right, hk]
theorem putsE_merge : ∀ {b a : List En}, srt a → srt b → putsE a b = merge a b
  | [], a, _, _ => by rw [merge_right]; rfl
  | x :: b, a, ha, hb => by
    have hb' := srt_cons.1 hb
    have sx : srt [x] := by unfold srt; simp
    have sax := merge_srt ha sx
    show putsE (putE a x) b = _
    rw [putE_merge x ha, putsE_merge sax hb'.2, merge_assoc ha sx hb'.2]
    congr 1
    refine ext_look (merge_srt sx hb'.2) hb fun k => ?_
    rw [merge_look k sx hb'.2, look_cons, look_cons, look_nil]
    by_cases e : x.key = k
    · subst e; rw [if_pos rfl, if_pos rfl, look_own hb]; rfl
    · rw [if_neg e, if_neg e]; rfl
end Go.Proofs.YtjbompimlopdiaaGreatDoor.rgy
