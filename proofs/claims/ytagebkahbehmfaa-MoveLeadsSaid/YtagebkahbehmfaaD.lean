/- What is gained, and what rests, by the package: closures. -/
import Derived.Test.YtagebkahbehmfaaC
import Derived.Shelf.Abstract
import Derived.Laws.EntriesVeiled
namespace Go.Proofs.Ytagebkahbehmfaa.move
open Go.ChangeShapes Go.WideShapes Go.ChangeAt Go.RowKit Go.Proofs.Aid Go.Proofs.Ytagebkahbehmfaa.texts
theorem zero44 (w : World) : (zeroValue 44).run Try.prog w = .ok (.agg #[]) w := by kernel_rfl
theorem zero9 (w : World) : (zeroValue 9).run Try.prog w = .ok (.string ⟨#[]⟩) w := by kernel_rfl
theorem among1_any (w : World) (p : Addr) (b n : Nat) (f : ByteArray → Bool) (hset : SetF Try.prog 9 w b n f) (hc : w.cell? p = some (.map (some b))) (s : ByteArray) (hs : s.size ≤ maxLen) :
    Calls Try.prog 26 #[.string s, .pointer (some p)] w fun e w' => e = .returned (.bool (f s)) ∧ Below w.heap.size w w' := by
  have HS := Lib.hid hs
  clear hs
  go_enter Try.func26, Try.ntmps26
  go_wp2_with (at_lookup; refine wpList_lookup_setF rfl _ _ 43 rfl Try.underlying9 Try.underlying43 (zero44 _) b n f rfl hset s rfl HS.out ?_)
  go_ret
  exact ⟨rfl, (Below.refl _ _).alloc (Nat.le_refl _) _⟩
/-- A function value that tells f of a text, in whatever world in which nothing below B has turned. -/
def Pred (B : Nat) (w0 : World) (F : FuncId) (p : Addr) (f : ByteArray → Bool) : Prop := ∀ (w : World) (s : ByteArray), s.size ≤ maxLen → Below B w0 w → Calls Try.prog F #[.string s, .pointer (some p)] w fun e w' => e = .returned (.bool (f s)) ∧ Below w.heap.size w w'
theorem among_pred {w : World} {p : Addr} {b n : Nat} {f : ByteArray → Bool} (hset : SetF Try.prog 9 w b n f) (hp : p.block < w.heap.size) (hc : w.cell? p = some (.map (some b))) : Pred w.heap.size w 26 p f := fun w' s hs hb =>
  among1_any w' p b n f (hset.below hb) ((hb.cell hp).trans hc) s hs
theorem rests1_any (w : World) (p q : Addr) (F : FuncId) (f : ByteArray → Bool) (hF : F = 26) (hP : Pred w.heap.size w F q f) (hc : w.cell? p = some (.func (.func F) #[] #[.pointer (some q)])) (s : ByteArray) (hs : s.size ≤ maxLen) :
    Calls Try.prog 24 #[.string s, .pointer (some p)] w fun e w' => e = .returned (.bool (!f s)) ∧ Below w.heap.size w w' := by
  subst hF
  have HP := Lib.hid (hP w s hs (Below.refl _ _))
  clear hP hs
  go_enter Try.func24, Try.ntmps24
  go_wp2_with fail
  refine HP.out.mono ?_
  rintro e w' ⟨rfl, hb⟩
  go_wp2
  go_ret
  exact ⟨rfl, hb⟩
theorem rests_pred {w : World} {p q : Addr} {f : ByteArray → Bool} (hP : Pred w.heap.size w 26 q f) (hp : p.block < w.heap.size) (hc : w.cell? p = some (.func (.func 26) #[] #[.pointer (some q)])) : Pred w.heap.size w 24 p (fun s => !f s) := fun w' s hs hb =>
  rests1_any w' p q 26 f rfl (fun w2 s hs h2 => hP w2 s hs (hb.trans (h2.mono hb.size))) ((hb.cell hp).trans hc) s hs
def AmongPost (w : World) (xs : List ByteArray) (e : Ending) (w' : World) : Prop := ∃ p : Addr, e = .returned (.func (.func 26) #[] #[.pointer (some p)]) ∧ p.block < w'.heap.size ∧ Pred w'.heap.size w' 26 p (memB xs) ∧ Below w.heap.size w w'
theorem memB_take {xs : List ByteArray} {k : Nat} (h : k < xs.length) (s : ByteArray) : (if s = xs[k] then true else memB (xs.take k) s) = memB (xs.take (k + 1)) s := by
  unfold memB
  rw [List.take_succ_eq_append_getElem h, List.any_append]
  by_cases e : s = xs[k]
  · simp [e]
  · simp [e, Ne.symm e]
set_option maxHeartbeats 1000000 in
theorem among_any (w : World) (A : Option Addr) (ca : Nat) (xs : List ByteArray) (hl : xs.length ≤ 1000) (h1 : Reads w w.heap.size 1 A xs.length (xs.flatMap tc)) (hs : ∀ s ∈ xs, s.size ≤ maxLen) :
    Calls Try.prog 22 #[.slice A xs.length ca] w (AmongPost w xs) := by
  have H1 := Lib.hid h1
  have HS := Lib.hid hs
  clear h1 hs
  have hmm := @run_makeMap Try.prog
  have hst := (SetF.made w Try.prog 9).alloc (.cells #[.map (some w.heap.size)] 43)
  have hbx := Blk.new (w.alloc (.map #[] 0)) 43 #[.map (some w.heap.size)]
  rw [World.size_alloc] at hbx
  go_enter Try.func22, Try.ntmps22
  go_wp2_with fail
  generalize hB : w.heap.size = B at hst hbx ⊢
  have HB := Lib.hid hB
  clear hB
  have hlow0 : Below B w ((w.alloc (.map #[] 0)).alloc (.cells #[.map (some B)] 43)) := by rw [← HB.out]; exact ((Below.refl _ _).alloc (Nat.le_refl _) _).alloc (by simp) _
  generalize (w.alloc (.map #[] 0)).alloc (.cells #[.map (some B)] 43) = w2 at *
  go_loopw [5, 9] (fun _ iv wr => ∃ k : Nat, k ≤ xs.length ∧ iv = .int .i64 k ∧ SetF Try.prog 9 wr B k (memB (xs.take k)) ∧ Blk wr (B + 1) 43 #[.map (some B)] ∧ Below B w wr) (fun _ iv _ => xs.length - (intOf iv).toNat)
  case atStart => exact ⟨0, by omega, rfl, hst, hbx, hlow0⟩
  case round =>
    clear hst hbx hlow0
    obtain ⟨k, hk, rfl, hset, hbx, hlow⟩ := hrel
    have hcb : wr.cell? ⟨B + 1, 0, none⟩ = some (.map (some B)) := hbx.cell 0
    by_cases hlt : k < xs.length
    · obtain ⟨a1, q1, -, c1⟩ := (H1.out.below (HB.out ▸ hlow)).elem1 hlt
      subst q1
      have hsz := Lib.hid (HS.out _ (List.getElem_mem hlt))
      have hmt := Lib.hid (memB_take hlt)
      generalize xs[k] = s at *
      go_wp2_with (at_mapUpdate; refine wpList_store_setF (e := 44) rfl _ _ _ 43 rfl Try.underlying9 Try.underlying43 B k _ rfl hset (by unfold maxLen; omega) s rfl rfl hsz.out ?_; intro w3 hset3 hg3)
      have hset4 := hset3.eq hmt.out
      have hb4 := hbx.grown hg3 (by simp)
      have hl4 := hlow.grown hg3 (by have := hset.lt; omega) (fun q hq => by cases hq; exact Nat.le_refl _)
      go_roundw
      case rel => exact ⟨k + 1, by omega, by go_num, hset4, hb4, hl4⟩
      case measure => simp [intOf]; omega
    · have hkl : k = xs.length := by omega
      subst hkl
      rw [List.take_length] at hset
      go_wp2
      go_ret
      exact ⟨⟨B + 1, 0, none⟩, rfl, hbx.lt, among_pred hset hbx.lt hcb, by rw [HB.out]; exact hlow⟩
def idx (f : ByteArray → Bool) (xs : List ByteArray) : Int := match xs.findIdx? f with | some i => i | none => -1
theorem idx_some {f : ByteArray → Bool} {xs : List ByteArray} {k : Nat} (h : k < xs.length) (hk : f xs[k] = true) (hj : ∀ j (_ : j < xs.length), j < k → f xs[j] = false) : idx f xs = k := by
  unfold idx
  rw [show xs.findIdx? f = some k from List.findIdx?_eq_some_iff_getElem.2 ⟨h, hk, fun j hjk => by simp [hj j (by omega) hjk]⟩]
theorem idx_none {f : ByteArray → Bool} {xs : List ByteArray} (hj : ∀ j (_ : j < xs.length), f xs[j] = false) : idx f xs = -1 := by
  unfold idx
  rw [show xs.findIdx? f = none from List.findIdx?_eq_none_iff.2 fun x hx => by obtain ⟨j, hj', rfl⟩ := List.getElem_of_mem hx; simp [hj j hj']]
def Enters (F : FuncId) : Prop := ∀ (args : Array Value) (w : World), (callFunc F args).run Try.prog w = .ok (.enter F args) w
set_option maxHeartbeats 1000000 in
theorem index_any (B : Nat) (w0 w : World) (A : Option Addr) (ca : Nat) (xs : List ByteArray) (F : FuncId) (hF : Enters F) (p : Addr) (f : ByteArray → Bool) (hP : Pred B w0 F p f) (hlow : Below B w0 w) (hBz : B ≤ w.heap.size) (hl : xs.length ≤ 1000) (h1 : Reads w w.heap.size 1 A xs.length (xs.flatMap tc)) (hs : ∀ s ∈ xs, s.size ≤ maxLen) :
    Calls Try.prog 27 #[.slice A xs.length ca, .func (.func F) #[] #[.pointer (some p)]] w fun e w' => e = .returned (.int .i64 (idx f xs)) ∧ Below w.heap.size w w' := by
  have H1 := Lib.hid h1
  have HS := Lib.hid hs
  have HP := Lib.hid hP
  have HL := Lib.hid hlow
  unfold Enters at hF
  clear h1 hs hP hlow
  go_enter Try.func27, Try.ntmps27
  go_wp2_with fail
  go_loopw [5, 8] (fun _ iv wr => ∃ k : Nat, k ≤ xs.length ∧ iv = .int .i64 k ∧ Hid (∀ j (_ : j < xs.length), j < k → f xs[j] = false) ∧ Below w.heap.size w wr) (fun _ iv _ => xs.length - (intOf iv).toNat)
  case atStart => exact ⟨0, by omega, rfl, fun _ _ h => by omega, Below.refl _ _⟩
  case round =>
    obtain ⟨k, hk, rfl, hI, hb⟩ := hrel
    by_cases hlt : k < xs.length
    · obtain ⟨a1, q1, -, c1⟩ := (H1.out.below hb).elem1 hlt
      subst q1
      have hcall := Lib.hid (HP.out wr xs[k] (HS.out _ (List.getElem_mem hlt)) (HL.out.trans (hb.mono hBz)))
      cases hf : f xs[k] with
      | true =>
        have hfin := Lib.hid (idx_some hlt hf (fun j h hj => hI.out j h hj))
        rw [hf] at hcall
        clear hf
        generalize xs[k] = s at *
        go_wp2_with fail
        refine hcall.out.mono ?_
        rintro e w2 ⟨rfl, hb2⟩
        have hb3 := hb.trans (hb2.mono hb.size)
        go_wp2
        go_ret
        exact ⟨ret_int hfin.out.symm, hb3⟩
      | false =>
        have hI2 : Hid (∀ j (_ : j < xs.length), j < k + 1 → f xs[j] = false) := fun j h hj => by
          by_cases e : j < k
          · exact hI.out j h e
          · have : j = k := by omega
            subst this; exact hf
        rw [hf] at hcall
        clear hf
        generalize xs[k] = s at *
        go_wp2_with fail
        refine hcall.out.mono ?_
        rintro e w2 ⟨rfl, hb2⟩
        have hb3 := hb.trans (hb2.mono hb.size)
        go_wp2
        go_roundw
        case rel => exact ⟨k + 1, by omega, by go_num, hI2, hb3⟩
        case measure => simp [intOf]; omega
    · have hfin := Lib.hid (idx_none (f := f) (xs := xs) (fun j h => hI.out j h (by omega)))
      go_wp2
      go_ret
      exact ⟨ret_int hfin.out.symm, hb⟩
theorem filter_none {f : ByteArray → Bool} {xs : List ByteArray} (h : xs.findIdx? f = none) : xs.filter (fun s => !f s) = xs := by
  rw [List.findIdx?_eq_none_iff] at h
  rw [List.filter_eq_self]
  intro s hs; simp [h s hs]
/-- What DeleteFunc has done when j of the texts were asked. -/
structure Kept (f : ByteArray → Bool) (xs L : List ByteArray) (i j : Nat) : Prop where
  len : L.length = xs.length
  lt : i < j
  low : L.take i = (xs.take j).filter fun s => !f s
  high : L.drop j = xs.drop j
theorem Kept.start {f : ByteArray → Bool} {xs : List ByteArray} {k : Nat} (h : xs.findIdx? f = some k) : Kept f xs xs k (k + 1) := by
  obtain ⟨hk, h1, h2⟩ := List.findIdx?_eq_some_iff_getElem.1 h
  refine ⟨rfl, by omega, ?_, rfl⟩
  rw [List.take_succ_eq_append_getElem hk, List.filter_append]
  have : (xs.take k).filter (fun s => !f s) = xs.take k := by
    rw [List.filter_eq_self]
    intro s hs
    obtain ⟨j, hj, rfl⟩ := List.getElem_of_mem hs
    rw [List.length_take] at hj
    rw [List.getElem_take]
    simpa using h2 j (by omega)
  rw [this]; simp [h1]
theorem Kept.at_ {f : ByteArray → Bool} {xs L : List ByteArray} {i j : Nat} (h : Kept f xs L i j) (hj : j < xs.length) : ∃ hL : j < L.length, L[j] = xs[j] := by
  have hL : j < L.length := by rw [h.len]; exact hj
  refine ⟨hL, ?_⟩
  have h1 : (L.drop j)[0]? = (xs.drop j)[0]? := by rw [h.high]
  rw [List.getElem?_drop, List.getElem?_drop] at h1
  simpa [hL, hj] using h1
theorem Kept.skip {f : ByteArray → Bool} {xs L : List ByteArray} {i j : Nat} (h : Kept f xs L i j) (hj : j < xs.length) (hf : f xs[j] = true) : Kept f xs L i (j + 1) := by
  refine ⟨h.len, by have := h.lt; omega, ?_, ?_⟩
  · rw [List.take_succ_eq_append_getElem hj, List.filter_append, h.low]; simp [hf]
  · rw [← List.drop_drop, ← List.drop_drop, h.high]
theorem Kept.put {f : ByteArray → Bool} {xs L : List ByteArray} {i j : Nat} (h : Kept f xs L i j) (hj : j < xs.length) (hf : f xs[j] = false) : Kept f xs (L.set i xs[j]) (i + 1) (j + 1) := by
  have hlt := h.lt
  have hiL : i < L.length := by rw [h.len]; omega
  refine ⟨by rw [List.length_set]; exact h.len, by omega, ?_, ?_⟩
  · rw [List.take_succ_eq_append_getElem hj, List.filter_append, ← h.low, List.take_succ_eq_append_getElem (by simpa using hiL), List.take_set_of_le (Nat.le_refl _)]
    simp [hf]
  · rw [List.drop_set_of_lt (by omega), ← List.drop_drop, ← List.drop_drop, h.high]
set_option maxRecDepth 100000 in
set_option maxHeartbeats 4000000 in
theorem delete_any (B : Nat) (w0 w : World) (base : Nat) (hB : B ≤ base) (A : Option Addr) (ca : Nat) (xs : List ByteArray) (F : FuncId) (hF : Enters F) (p : Addr) (f : ByteArray → Bool) (hP : Pred B w0 F p f) (hlow : Below B w0 w) (hBz : base ≤ w.heap.size) (hl : xs.length ≤ 1000) (hrow : Row w base 9 1 tc (.slice A xs.length ca) xs) (hs : ∀ s ∈ xs, s.size ≤ maxLen) :
    Calls Try.prog 25 #[.slice A xs.length ca, .func (.func F) #[] #[.pointer (some p)]] w fun e w' => ∃ v, e = .returned v ∧ Row w' base 9 1 tc v (xs.filter fun s => !f s) ∧ Below B w0 w' := by
  have HS := Lib.hid hs
  have HP := Lib.hid hP
  have HL := Lib.hid hlow
  obtain ⟨A9, c9, e9, hcc, hrd⟩ := hrow.reads'
  injection e9 with e9 _ e9c
  subst e9 e9c
  have HRD := Lib.hid hrd
  have hFE := hF
  unfold Enters at hF
  clear hs hP hlow hrd
  go_enter Try.func25, Try.ntmps25
  go_wp2_with fail
  refine (index_any B w0 w A ca xs F hFE p f HP.out HL.out (by omega) hl HRD.out HS.out).mono ?_
  rintro e w1 ⟨rfl, hb1⟩
  have hrow1 := hrow.below hb1
  have hlow1 := HL.out.trans (hb1.mono (by omega))
  have hz1 := hb1.size
  cases hfi : xs.findIdx? f with
  | none =>
    have hfin := Lib.hid (filter_none hfi)
    rw [show idx f xs = -1 by unfold idx; rw [hfi]]
    clear hfi
    go_wp2
    go_ret
    exact ⟨_, rfl, by rw [hfin.out]; exact hrow1, hlow1⟩
  | some k =>
    have hK := Lib.hid (Kept.start hfi)
    have hk := (List.findIdx?_eq_some_iff_getElem.1 hfi).1
    rw [show idx f xs = k by unfold idx; rw [hfi]]
    clear hfi
    obtain ⟨g, rfl⟩ : ∃ g, A = some ⟨g, 0, none⟩ := by
      rcases hrow.2 with ⟨h, _⟩ | ⟨g, _, _, h, _⟩
      · injection h with h1 h2; omega
      · injection h with h1; exact ⟨g, h1⟩
    have hkm : ((k : Int) == -1) = false := by simp
    go_wp2_with fail
    clear hrow HRD hb1
    go_loopw [5, 6, 7] (fun iv jv _ wr => ∃ (i j : Nat) (L : List ByteArray), iv = .int .i64 i ∧ jv = .int .i64 j ∧ j ≤ xs.length ∧ i < j ∧ Hid (Kept f xs L i j) ∧ Row wr base 9 1 tc (.slice (some ⟨g, 0, none⟩) xs.length ca) L ∧ Below B w0 wr ∧ base ≤ wr.heap.size) (fun _ jv _ _ => xs.length - (intOf jv).toNat)
    case atStart => exact ⟨k, k + 1, xs, rfl, by go_num, by omega, by omega, hK, hrow1, hlow1, by omega⟩
    case round =>
      clear hrow1 hlow1 hz1 hK
      obtain ⟨i, j, L, rfl, rfl, hj, hij, hK, hrow, hlow, hz⟩ := hrel
      have hgb : base ≤ g := (hrow.own rfl).1
      by_cases hlt : j < xs.length
      · obtain ⟨hjL, hLj⟩ := hK.out.at_ hlt
        obtain ⟨cj, -⟩ := Row1.cell hrow hjL
        rw [hLj] at cj
        have hcall := Lib.hid (HP.out wr xs[j] (HS.out _ (List.getElem_mem hlt)) hlow)
        cases hf : f xs[j] with
        | true =>
          have hK2 := Lib.hid (hK.out.skip hlt hf)
          rw [hf] at hcall
          clear hf hLj
          generalize xs[j] = s at *
          go_wp2_with fail
          refine hcall.out.mono ?_
          rintro e w2 ⟨rfl, hb2⟩
          have hrow2 := hrow.below hb2
          have hlow2 := hlow.trans (hb2.mono (by omega))
          have hz2 := hb2.size
          go_wp2
          go_roundw
          case rel => exact ⟨i, j + 1, L, rfl, by go_num, by omega, by omega, hK2, hrow2, hlow2, by omega⟩
          case measure => simp [intOf]; omega
        | false =>
          have hK2 := Lib.hid (hK.out.put hlt hf)
          have hiL : i < L.length := by omega
          have hnx := fun (w2 : World) (h : Row w2 base 9 1 tc (.slice (some ⟨g, 0, none⟩) xs.length ca) L) => Lib.hid (Row1.set h hiL xs[j])
          rw [hf] at hcall
          clear hf hLj
          generalize xs[j] = s at *
          go_wp2_with fail
          refine hcall.out.mono ?_
          rintro e w2 ⟨rfl, hb2⟩
          have hrow2 := hrow.below hb2
          have hlow2 := hlow.trans (hb2.mono (by omega))
          have hz2 := hb2.size
          obtain ⟨ci, cf⟩ := Row1.cell hrow2 hiL
          have hil : i < xs.length := by omega
          have hnx2 := hnx w2 hrow2
          have hlow3 := hlow2.setCell (p := ⟨g, i, none⟩) (by show B ≤ g; omega) (.string s)
          clear hnx
          generalize L[i] = old at ci
          go_wp2
          go_roundw
          case rel => exact ⟨i + 1, j + 1, _, by go_num, by go_num, by omega, by omega, hK2, hnx2.out, hlow3, by simp; omega⟩
          case measure => simp [intOf]; omega
      · have hjl : j = xs.length := by omega
        subst hjl
        have hfin : Hid (L.take i = xs.filter fun s => !f s) := by have h := hK.out.low; rw [List.take_length] at h; exact h
        have hLl := Lib.hid hK.out.len
        have hci : i ≤ ca := by omega
        have hci2 : ¬ ca = i := by omega
        have hcl := fun ty => Lib.run_clear_slice (P := Try.prog) wr 22 9 ty (.string ⟨#[]⟩) Try.underlying22 zero9 rfl rfl g i (xs.length - i) (ca - i) (by omega) (fun t ht => by rw [(Row1.cell hrow (by have := hLl.out; omega : i + t < L.length)).1]; rfl) (fun t ht => (Row1.cell hrow (by have := hLl.out; omega : i + t < L.length)).2)
        have hrow2 := Row1.beyonds i (List.replicate (xs.length - i) (Value.string ⟨#[]⟩)) i wr (L.take i) (Row1.cut hrow (by have := hLl.out; omega)) (Nat.le_refl _)
        have hlow2 := low_setCells (g := g) (by omega : B ≤ g) (List.replicate (xs.length - i) (Value.string ⟨#[]⟩)) i wr hlow
        generalize wr.setCells g i (List.replicate (xs.length - i) (Value.string ⟨#[]⟩)) = w5 at *
        go_wp2
        go_ret
        exact ⟨_, rfl, by rw [← hfin.out]; exact hrow2, hlow2⟩
theorem enters26 : Enters 26 := enters_of Try.func26 (by kernel_rfl) rfl
theorem enters24 : Enters 24 := enters_of Try.func24 (by kernel_rfl) rfl
set_option maxHeartbeats 1000000 in
theorem without_any (w : World) (A : Option Addr) (ca : Nat) (xs : List ByteArray) (F : FuncId) (hF : Enters F) (p : Addr) (f : ByteArray → Bool) (hP : Pred w.heap.size w F p f) (hl : xs.length ≤ 1000) (h1 : Reads w w.heap.size 1 A xs.length (xs.flatMap tc)) (hs : ∀ s ∈ xs, s.size ≤ maxLen) :
    Calls Try.prog 21 #[.slice A xs.length ca, .func (.func F) #[] #[.pointer (some p)]] w (RowPost w (xs.filter fun s => !f s)) := by
  have H1 := Lib.hid h1
  have HS := Lib.hid hs
  have HP := Lib.hid hP
  clear h1 hs hP
  go_enter Try.func21, Try.ntmps21
  go_wp2_with fail
  refine (clone_any w A ca xs hl H1.out).mono ?_
  rintro e w1 ⟨v, rfl, hrow, hlow⟩
  obtain ⟨A1, c1, rfl⟩ := hrow.form
  have hz := hlow.size
  go_wp2_with fail
  refine (delete_any w.heap.size w w1 w.heap.size (Nat.le_refl _) A1 c1 xs F hF p f HP.out hlow hz hl hrow HS.out).mono ?_
  rintro e w2 ⟨v2, rfl, hrow2, hlow2⟩
  go_wp2
  go_ret
  exact ⟨_, rfl, hrow2, hlow2⟩
theorem gains_eq (was now : List ByteArray) : (now.filter fun s => !memB was s) = gains was now := rfl
set_option maxHeartbeats 1000000 in
theorem gains_any (w : World) (A B : Option Addr) (ca cb : Nat) (was now : List ByteArray) (hl : was.length ≤ 1000) (hl2 : now.length ≤ 1000) (h1 : Reads w w.heap.size 1 A was.length (was.flatMap tc)) (h2 : Reads w w.heap.size 1 B now.length (now.flatMap tc)) (hs1 : ∀ s ∈ was, s.size ≤ maxLen) (hs2 : ∀ s ∈ now, s.size ≤ maxLen) :
    Calls Try.prog 15 #[.slice A was.length ca, .slice B now.length cb] w (RowPost w (gains was now)) := by
  have H1 := Lib.hid h1
  have H2 := Lib.hid h2
  have HS1 := Lib.hid hs1
  have HS2 := Lib.hid hs2
  clear h1 h2 hs1 hs2
  go_enter Try.func15, Try.ntmps15
  go_wp2_with fail
  refine (among_any w A ca was hl H1.out HS1.out).mono ?_
  rintro e w1 ⟨p, rfl, hp, hP, hlow⟩
  have hz := hlow.size
  have H2' := Lib.hid (Reads.more (H2.out.below hlow) hz)
  go_wp2_with fail
  refine (without_any w1 B cb now 26 enters26 p (memB was) hP hl2 H2'.out HS2.out).mono ?_
  rintro e w2 ⟨v2, rfl, hrow2, hlow2⟩
  have hl3 := hlow.trans (hlow2.mono hz)
  go_wp2
  go_ret
  exact ⟨_, rfl, hrow2.more hz, hl3⟩
set_option maxHeartbeats 1000000 in
theorem rests_any (w : World) (A B : Option Addr) (ca cb : Nat) (was now : List ByteArray) (hl : was.length ≤ 1000) (hl2 : now.length ≤ 1000) (h1 : Reads w w.heap.size 1 A was.length (was.flatMap tc)) (h2 : Reads w w.heap.size 1 B now.length (now.flatMap tc)) (hs1 : ∀ s ∈ was, s.size ≤ maxLen) (hs2 : ∀ s ∈ now, s.size ≤ maxLen) :
    Calls Try.prog 17 #[.slice A was.length ca, .slice B now.length cb] w (RowPost w (rests was now)) := by
  have H1 := Lib.hid h1
  have H2 := Lib.hid h2
  have HS1 := Lib.hid hs1
  have HS2 := Lib.hid hs2
  have HR := Lib.hid (show (now.filter fun s => !!memB was s) = rests was now by unfold rests; simp)
  clear h1 h2 hs1 hs2
  go_enter Try.func17, Try.ntmps17
  go_wp2_with fail
  refine (among_any w A ca was hl H1.out HS1.out).mono ?_
  rintro e w1 ⟨p, rfl, hp, hP, hlow⟩
  have hz := hlow.size
  have hlow1 := hlow.alloc hz (.cells #[.func (.func 26) #[] #[.pointer (some p)]] 40)
  have hbx := (Blk.new w1 40 #[.func (.func 26) #[] #[.pointer (some p)]])
  have hP2 : Pred (w1.heap.size + 1) (w1.alloc (.cells #[.func (.func 26) #[] #[.pointer (some p)]] 40)) 26 p (memB was) := fun w2 s hs h2 => hP w2 s hs (((Below.refl _ _).alloc (Nat.le_refl _) _).trans (h2.mono (by omega)))
  have hlt := hbx.lt
  have hc := hbx.cell 0
  have hP3 : Pred (w1.alloc (.cells #[.func (.func 26) #[] #[.pointer (some p)]] 40)).heap.size (w1.alloc (.cells #[.func (.func 26) #[] #[.pointer (some p)]] 40)) 24 ⟨w1.heap.size, 0, none⟩ (fun s => !memB was s) := rests_pred (by simpa using hP2) hlt hc
  have H2' := Lib.hid (Reads.more (H2.out.below hlow1) hlow1.size)
  have HP3 := Lib.hid hP3
  clear hP hP2 hP3 hc hbx
  go_wp2_with fail
  generalize hwx : w1.alloc (.cells #[.func (.func 26) #[] #[.pointer (some p)]] 40) = wx at *
  clear hwx
  refine (without_any wx B cb now 24 enters24 ⟨w1.heap.size, 0, none⟩ (fun s => !memB was s) HP3.out hl2 H2'.out HS2.out).mono ?_
  rw [HR.out]
  rintro e w2 ⟨v2, rfl, hrow2, hlow2⟩
  have hl3 := hlow1.trans (hlow2.mono hlow1.size)
  have hz1 := hlow1.size
  go_wp2
  go_ret
  exact ⟨_, rfl, hrow2.more hz1, hl3⟩
end Go.Proofs.Ytagebkahbehmfaa.move
