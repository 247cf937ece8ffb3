/- Entries of a registry: those under a path, and news. -/
import Derived.Test.YtdnefcpmechjkaaRgE
import Derived.Deep.RegionHeld3
namespace Go.Proofs.Ytdnefcpmechjkaa.rgy
open Go.ChangeShapes Go.WideShapes Go.ChangeAt Go.RowKit Go.Proofs.Aid Go.Proofs.Ytdnefcpmechjkaa.name Go.Proofs.Ytdnefcpmechjkaa.reg
def underP (path : ByteArray) (e : En) : Bool := Lib.hasPrefix e.key.data.toList (path.data.toList ++ [47])
def newsP (b : List En) (e : En) : Bool := e.reg.newer (get b e.key)
set_option maxHeartbeats 1000000 in
theorem under1_any (x : En) (w : World) (p : Addr) (s : ByteArray) (hs : s.size ≤ 1000000) (hp : p.block < w.heap.size) (hc : w.cell? p = some (.string s)) :
    Calls Try.prog 30 #[x.val, .pointer (some p)] w fun e w' => e = .returned (.bool (underP s x)) ∧ Below w.heap.size w w' := by
  obtain ⟨kk, n, b, v⟩ := x
  have hne : ¬ (p.block = w.heap.size) := by omega
  have hl0 := Lib.hid (below_lit w (.cells #[.string kk, .int .i64 n, .string b, .string v] 35))
  have hU := Lib.hid (show underP s ⟨kk, n, b, v⟩ = Lib.hasPrefix kk.data.toList (s.data.toList ++ [47]) from rfl)
  show Calls Try.prog 30 #[.agg #[.string kk, .int .i64 n, .string b, .string v], .pointer (some p)] w _
  go_enter Try.func30, Try.ntmps30
  go_wp2_with fail
  refine (Try.strings_HasPrefix _ _ _).mono ?_
  rw [show (s ++ ⟨#[47]⟩ : ByteArray).data.toList = s.data.toList ++ [47] by simp]
  rintro e w1 ⟨rfl, rfl⟩
  go_wp2
  go_ret
  exact ⟨reg.ret_bool hU.out.symm, hl0.out⟩
theorem under1_pred {w : World} {p : Addr} {s : ByteArray} (hs : s.size ≤ 1000000) (hp : p.block < w.heap.size) (hc : w.cell? p = some (.string s)) : PredE w.heap.size w 30 p (underP s) := fun w' x _ hb =>
  under1_any x w' p s hs (Nat.lt_of_lt_of_le hp hb.size) ((hb.cell hp).trans hc)
theorem entersU : Enters 30 := enters_of Try.func30 (by kernel_rfl) rfl
theorem entersN : Enters 32 := enters_of Try.func32 (by kernel_rfl) rfl
set_option maxHeartbeats 1000000 in
theorem under_any (w : World) (A : Option Addr) (ca : Nat) (xs : List En) (s : ByteArray) (hl : xs.length ≤ 100000) (h1 : Reads w w.heap.size 4 A xs.length (xs.flatMap En.cells)) (hz : ∀ r ∈ xs, r.sz) (hs : s.size ≤ 1000000) :
    Calls Try.prog 14 #[.slice A xs.length ca, .string s] w (RowE w (xs.filter (underP s))) := by
  have hb := Blk.new w 9 #[.string s]
  have hl0 := Lib.hid (below_lit w (.cells #[.string s] 9))
  have H1 := Lib.hid (h1.more_below hl0.out)
  have HS := Lib.hid hz
  have HP := Lib.hid (under1_pred (w := w.alloc (.cells #[.string s] 9)) (p := ⟨w.heap.size, 0, none⟩) hs (by simp) (by rw [hb.cell]; rfl))
  clear h1 hz hb
  go_enter Try.func14, Try.ntmps14
  go_wp2_with fail
  refine (only_any _ A ca xs _ entersU ⟨w.heap.size, 0, none⟩ _ HP.out hl H1.out HS.out).mono ?_
  rintro e w2 ⟨v2, rfl, hrow2, hlow2⟩
  have hr := Lib.hid (hrow2.more (base' := w.heap.size) (by simp))
  have hl3 := Lib.hid (hl0.out.trans (hlow2.mono (by simp)))
  clear hrow2 hlow2
  go_wp2
  go_ret
  exact ⟨_, rfl, hr.out, hl3.out⟩
set_option maxHeartbeats 4000000 in
theorem news1_any (x : En) (w : World) (p : Addr) (A : Option Addr) (ca : Nat) (ys : List En) (hl : ys.length ≤ 1000000) (hp : p.block < w.heap.size) (hc : w.cell? p = some (.slice A ys.length ca)) (h1 : Reads w w.heap.size 4 A ys.length (ys.flatMap En.cells)) :
    Calls Try.prog 32 #[x.val, .pointer (some p)] w fun e w' => e = .returned (.bool (newsP ys x)) ∧ Below w.heap.size w w' := by
  obtain ⟨kk, n, b, v⟩ := x
  have hne : ¬ (p.block = w.heap.size) := by omega
  have hU0 := (show newsP ys ⟨kk, n, b, v⟩ = Rg.newer ⟨n, b, v⟩ (get ys kk) from rfl)
  generalize hgk : get ys kk = gk at hU0
  obtain ⟨gn, gb, gv⟩ := gk
  have HGK := Lib.hid hgk
  generalize hd : Rg.newer ⟨n, b, v⟩ ⟨gn, gb, gv⟩ = d at hU0
  have HD := Lib.hid hd
  have hU := Lib.hid hU0
  clear hgk hd hU0
  have test := XP.drew (XP.new w 35 kk n b v hc hp)
  have H1 := Lib.hid h1
  clear h1 hc
  show Calls Try.prog 32 #[.agg #[.string kk, .int .i64 n, .string b, .string v], .pointer (some p)] w _
  go_enter Try.func32, Try.ntmps32
  go_wp2_with fail
  go_region_held3 (fun w' => w'.cell? ⟨w.heap.size, 0, none⟩ = some (.string kk) ∧ w'.cell? ⟨w.heap.size, 1, none⟩ = some (.int .i64 n) ∧ w'.cell? ⟨w.heap.size, 2, none⟩ = some (.string b) ∧ w'.cell? ⟨w.heap.size, 3, none⟩ = some (.string v) ∧ w'.cell? p = some (.slice A ys.length ca) ∧ Hid (XP w 35 kk n b v p (.slice A ys.length ca) w'))
    ((first | assumption | exact XP.drew (by assumption) | (go_split_ands; exact XP.drew (by assumption)) | (go_split_ands; exact XP.step (by assumption) (by assumption))))
    (first
      | (go_at_call 11; refine (get_any _ A ca ys kk hl (H1.out.more_below ‹_ ∧ _ ∧ _ ∧ _ ∧ _ ∧ Hid (XP _ _ _ _ _ _ _ _ _)›.2.2.2.2.2.low)).mono ?_; rw [HGK.out]; rintro e w' ⟨rfl, hb⟩)
      | (go_at_call 33; refine (newer_any ⟨n, b, v⟩ ⟨gn, gb, gv⟩ _).mono ?_; rw [HD.out]; rintro e w' ⟨rfl, hb⟩))
  rename_i hheld
  have hlast := Lib.hid hheld.2.2.2.2.2.low
  clear hheld test
  go_wp2
  go_ret
  exact ⟨reg.ret_bool hU.out.symm, hlast.out⟩
theorem news1_pred {w : World} {p : Addr} {A : Option Addr} {ca : Nat} {ys : List En} (hl : ys.length ≤ 1000000) (hp : p.block < w.heap.size) (hc : w.cell? p = some (.slice A ys.length ca)) (h1 : Reads w w.heap.size 4 A ys.length (ys.flatMap En.cells)) : PredE w.heap.size w 32 p (newsP ys) := fun w' x _ hb =>
  news1_any x w' p A ca ys hl (Nat.lt_of_lt_of_le hp hb.size) ((hb.cell hp).trans hc) (h1.more_below hb)
set_option maxHeartbeats 1000000 in
theorem news_any (w : World) (A B : Option Addr) (ca cb : Nat) (xs ys : List En) (hl : xs.length ≤ 100000) (hl2 : ys.length ≤ 100000) (h1 : Reads w w.heap.size 4 A xs.length (xs.flatMap En.cells)) (h2 : Reads w w.heap.size 4 B ys.length (ys.flatMap En.cells)) (hz : ∀ r ∈ xs, r.sz) :
    Calls Try.prog 16 #[.slice A xs.length ca, .slice B ys.length cb] w (RowE w (xs.filter (newsP ys))) := by
  have hb := Blk.new w 22 #[.slice B ys.length cb]
  have hl0 := Lib.hid (below_lit w (.cells #[.slice B ys.length cb] 22))
  have H1 := Lib.hid (h1.more_below hl0.out)
  have HS := Lib.hid hz
  have HP := Lib.hid (news1_pred (w := w.alloc (.cells #[.slice B ys.length cb] 22)) (p := ⟨w.heap.size, 0, none⟩) (A := B) (ca := cb) (ys := ys) (by omega) (by simp) (by rw [hb.cell]; rfl) (h2.more_below hl0.out))
  clear h1 h2 hz hb
  go_enter Try.func16, Try.ntmps16
  go_wp2_with fail
  refine (only_any _ A ca xs _ entersN ⟨w.heap.size, 0, none⟩ _ HP.out hl H1.out HS.out).mono ?_
  rintro e w2 ⟨v2, rfl, hrow2, hlow2⟩
  have hr := Lib.hid (hrow2.more (base' := w.heap.size) (by simp))
  have hl3 := Lib.hid (hl0.out.trans (hlow2.mono (by simp)))
  clear hrow2 hlow2
  go_wp2
  go_ret
  exact ⟨_, rfl, hr.out, hl3.out⟩
end Go.Proofs.Ytdnefcpmechjkaa.rgy
