/-
  Layer 7, walks: Split.
-/
import Derived.Test.YthecofkkacieaaaDoorP7d
namespace Go.Proofs.YthecofkkacieaaaDoor.P7
open Go.RowKit Go.Shelf Go.PlainAid M7
open S5 (Env ts)
set_option linter.unusedVariables false

theorem mem_ahead : ∀ (l : List (List UInt8)) (x : List UInt8), x ∈ l → x.length + 1 ≤ (M7.ahead l).length := by
  intro l
  induction l with
  | nil => intro x h; cases h
  | cons a l ih =>
    intro x h
    rw [ahead_cons]
    simp only [List.length_cons, List.length_append]
    rcases List.mem_cons.1 h with rfl | h
    · omega
    · have := ih x h; omega
theorem pieces_mem {l x : List UInt8} (h : x ∈ pieces l) : x.length ≤ l.length := by
  have := mem_ahead _ _ h
  rw [pieces_ahead l.length l (Nat.le_refl _)] at this
  simpa using this

set_option maxRecDepth 100000 in
set_option maxHeartbeats 400000 in
theorem hasPre_in (a b : ByteArray) (w : World) (ha : a.size ≤ 9223372036854775807) (hb : b.size ≤ 9223372036854775807) : Calls Tryd.prog 38 #[.string a, .string b] w fun e w' => e = .returned (.bool (decide (a.data.toList.take b.size = b.data.toList))) ∧ w = w' := by
  have hla : a.data.toList.length = a.size := rfl
  have hlb : b.data.toList.length = b.size := rfl
  by_cases h : b.size ≤ a.size
  · have he : (a.extract 0 b.size) = bs (a.data.toList.take b.size) := by conv => lhs; rw [← bs_of a, ext_pre]
    have hd : decide (a.data.toList.take b.size = b.data.toList) = ((a.extract 0 b.size).toList == b.toList) := by
      rw [he, Bool.eq_iff_iff]
      simp only [decide_eq_true_eq, beq_iff_eq]
      constructor
      · intro h; rw [h, bs_of]
      · intro h
        rw [bs_toList] at h
        rw [h, ByteArray.toList_eq]
    rw [hd]
    clear hd he hla hlb
    go_enter Tryd.func38, Tryd.ntmps38
    go_wp2
    all_goals go_ret
    all_goals exact ⟨rfl, rfl⟩
  · have hd : decide (a.data.toList.take b.size = b.data.toList) = false := decide_eq_false (fun h2 => by
      have := congrArg List.length h2
      rw [List.length_take] at this
      omega)
    rw [hd]
    clear hd hla hlb
    go_enter Tryd.func38, Tryd.ntmps38
    go_wp2
    all_goals go_ret
    all_goals exact ⟨rfl, rfl⟩

set_option maxRecDepth 100000 in
set_option maxHeartbeats 400000 in
theorem hasPre_any (a b : ByteArray) (w : World) (ha : a.size ≤ 9223372036854775807) (hb : b.size ≤ 9223372036854775807) : Calls Tryd.prog 27 #[.string a, .string b] w fun e w' => e = .returned (.bool (decide (a.data.toList.take b.size = b.data.toList))) ∧ w = w' := by
  have HH := Lib.hid (hasPre_in a b)
  go_enter Tryd.func27, Tryd.ntmps27
  go_wp2_with fail
  refine (HH.out _ ha hb).mono ?_
  rintro e w1 ⟨rfl, rfl⟩
  go_wp2
  go_ret
  exact ⟨rfl, rfl⟩

/-- Does a path begin with '/'? -/
theorem slash_any {p : List UInt8} {b : Bool} (h : decide (p.take 1 = [47]) = b) (hz : p.length ≤ 140737488351232) (w : World) :
    Calls Tryd.prog 27 #[.string (bs p), .string ⟨#[47]⟩] w fun e w' => e = .returned (.bool b) ∧ w = w' := by
  have := hasPre_any (bs p) ⟨#[47]⟩ w (by rw [bs_size]; omega) (by decide)
  rw [← h]
  exact this

/-- What Split tells: pieces, and an error's number. -/
def SplitE (l : List (List UInt8)) (x : Int) (w : World) (e : Ending) (w' : World) : Prop :=
  ∃ A c, e = .returned (.tuple #[.slice A l.length c, .int .i64 x]) ∧ Rd w' A (ts l) ∧ Below w.heap.size w w' ∧ l.length ≤ c
theorem own_cap {w : World} {B : Nat} {e : TypeId} {A : Option Addr} {n c : Nat} {xs : List Value} (h : w.ownsRow B e 1 (.slice A n c) n xs) : n ≤ c := by
  rcases h.2 with ⟨h1, h2⟩ | ⟨g, cap, cur, h1, _, _, h2, _⟩
  · omega
  · injection h1 with _ _ h3; omega

theorem two_boxes (w : World) (x y : Value) (t u : TypeId) : ((w.alloc (.cells #[x] t)).alloc (.cells #[y] u)).cell? ⟨w.heap.size, 0, none⟩ = some x ∧ ((w.alloc (.cells #[x] t)).alloc (.cells #[y] u)).cell? ⟨w.heap.size + 1, 0, none⟩ = some y := by
  have h1 := ((Boxed.new w t x).alloc (.cells #[y] u)).cell
  have h2 := (Boxed.new (w.alloc (.cells #[x] t)) u y).cell
  rw [World.size_alloc] at h2
  exact ⟨h1, h2⟩
theorem new2 (w : World) (o o' : Obj) : Below w.heap.size w ((w.alloc o).alloc o') := ((Below.refl _ _).alloc (Nat.le_refl _) _).alloc (by simp) _

set_option maxRecDepth 100000 in
set_option maxHeartbeats 400000 in
theorem split_no {p : List UInt8} (h : decide (p.take 1 = [47]) = false) (hz : p.length ≤ 140737488351232) (w : World) :
    Calls Tryd.prog 14 #[.string (bs p)] w (SplitE [] 71 w) := by
  have HS := Lib.hid h
  clear h
  go_enter Tryd.func14, Tryd.ntmps14
  go_wp2_with fail
  refine (slash_any HS.out hz _).mono ?_
  rintro e w1 ⟨rfl, rfl⟩
  go_wp2
  obtain ⟨c1, c2⟩ := two_boxes w (.slice none 0 0) (.int .i64 71) 32 26
  refine bodyPost_ret (v := .tuple #[.slice none 0 0, .int .i64 71]) (by simp [results, Tryd.f14, go_sem, c1, c2]) rfl ?_
  exact ⟨none, 0, rfl, .inl rfl, new2 w _ _, Nat.le_refl _⟩

set_option maxRecDepth 100000 in
set_option maxHeartbeats 400000 in
theorem split_root (w : World) :
    Calls Tryd.prog 14 #[.string (bs [47])] w (SplitE [] 0 w) := by
  have hq : ((bs [47]).toList == [47]) = true := by rw [bs_toList]; rfl
  go_enter Tryd.func14, Tryd.ntmps14
  go_wp2_with fail
  refine (slash_any (b := true) (by decide) (by simp) _).mono ?_
  rintro e w1 ⟨rfl, rfl⟩
  go_wp2
  obtain ⟨c1, c2⟩ := two_boxes w (.slice none 0 0) (.int .i64 0) 32 26
  refine bodyPost_ret (v := .tuple #[.slice none 0 0, .int .i64 0]) (by simp [results, Tryd.f14, go_sem, c1, c2]) rfl ?_
  exact ⟨none, 0, rfl, .inl rfl, new2 w _ _, Nat.le_refl _⟩

end Go.Proofs.YthecofkkacieaaaDoor.P7
