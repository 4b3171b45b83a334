/-
  Layer 10, the document's shelf: Place, Show, Find, List.
-/
import Derived.Test.YtnbgnjpjdplocaaR10a
namespace Go.Proofs.Ytnbgnjpjdplocaa.Q10
open Go.RowKit Go.PlainAid
set_option linter.unusedVariables false
set_option linter.unusedSimpArgs false

set_option maxRecDepth 100000 in
set_option maxHeartbeats 2000000 in
theorem refPlace_any (R : Rf) (l : List En) (x : Nm) (w : World) (h : RefAt R l w) :
    Calls Try.prog 16 #[.pointer (some ⟨R.r, 0, none⟩), nmV x] w fun e w' => PlaceIs l x e ∧ Below w.heap.size w w' := by
  obtain ⟨t, r, i⟩ := x
  have hfew := h.few
  have hba : Below w.heap.size w (w.alloc (.cells #[.int .i64 t, .int .i64 r, .int .i64 i] 35)) := (Below.refl _ _).alloc (Nat.le_refl _) _
  have HC := Lib.hid (refAt_any R l (t, r, i) _ (h.keep hba))
  simp only [nmV] at HC
  have HB := Lib.hid hba
  have H := Lib.hid h
  clear hba h
  show Calls Try.prog 16 #[.pointer (some ⟨R.r, 0, none⟩), .agg #[.int .i64 t, .int .i64 r, .int .i64 i]] w _
  go_enter Try.func16, Try.ntmps16
  go_wp2_with fail
  refine (HC.out).mono ?_
  rintro e w1 ⟨ha, hb⟩
  have hb1 : Below w.heap.size w w1 := HB.out.trans (hb.mono HB.out.size)
  have HB1 := Lib.hid hb1
  rcases ha with ⟨hn, rfl⟩ | ⟨j, hj, hx, rfl⟩
  · have HF : Hid (PlaceIs l (t, r, i) (.returned (.tuple #[.int .i64 0, .int .i64 0, .int .i64 111]))) := .inl ⟨hn, rfl⟩
    clear hn hb hb1
    go_wp2
    go_ret3
    exact ⟨HF.out, HB1.out⟩
  · have HF : Hid (PlaceIs l (t, r, i) (.returned (.tuple #[.int .i64 (j : Int), .int .i64 (seenN (l.take j) : Int), .int .i64 0]))) := .inr ⟨j, hj, hx, rfl⟩
    have HC2 := Lib.hid (refCountN_any R l j (Nat.le_of_lt hj) w1 (H.out.keep hb1))
    clear hx hb hb1
    go_wp2_with fail
    refine (HC2.out).mono ?_
    rintro e w2 ⟨rfl, hw⟩
    subst hw
    go_wp2
    go_ret3
    exact ⟨HF.out, HB1.out⟩

set_option maxRecDepth 100000 in
set_option maxHeartbeats 2000000 in
theorem refFind_any (R : Rf) (l : List En) (a : Int) (h1 : -9223372036854775808 ≤ a) (h2 : a ≤ 9223372036854775807) (w : World) (h : RefAt R l w) :
    Calls Try.prog 18 #[.pointer (some ⟨R.r, 0, none⟩), .int .i64 a] w fun e w' => FindIs l a e ∧ Below w.heap.size w w' := by
  have hrl := heap_lt h.box
  have hfew := h.few
  have hne : R.r ≠ w.heap.size := by omega
  have hba : Below w.heap.size w (w.alloc (.cells #[.int .i64 0, .int .i64 0, .int .i64 0] 35)) := (Below.refl _ _).alloc (Nat.le_refl _) _
  have h' := h.keep hba
  obtain ⟨A, c, B, d, c0, c1, hr, hr2, -, -⟩ := h'.facts
  have HC := fun (n : Nat) (hn : n ≤ l.length) => refCountN_any R l n hn _ h'
  have HCC := Lib.hid HC
  have HRA := Lib.hid hr
  have HRB := Lib.hid hr2
  have HB := Lib.hid hba
  clear h h' hr hr2 HC hba
  by_cases hneg : a < 0
  · have HF : Hid (FindIs l a (.returned (.tuple #[.agg #[.int .i64 0, .int .i64 0, .int .i64 0], .int .i64 100]))) := .inr ⟨nth_none (.inl hneg), rfl⟩
    have hng : ¬ (0 ≤ a) := by omega
    go_enter Try.func18, Try.ntmps18
    go_wp2
    go_loopw [6] (fun ix wr => ix = .int .i64 0 ∧ wr = w.alloc (.cells #[.int .i64 0, .int .i64 0, .int .i64 0] 35)) (fun i _ => 0)
    case atStart => exact ⟨rfl, rfl⟩
    case round =>
      obtain ⟨rfl, rfl⟩ := hrel
      by_cases h0 : (0 : Int) < (l.length : Int)
      · have h00 : 0 < l.length := by omega
        go_wp2
        exact bodyPost_ret (v := .tuple #[.agg #[.int .i64 0, .int .i64 0, .int .i64 0], .int .i64 100]) (by simp [results, Try.results18, go_sem]) rfl ⟨HF.out, HB.out⟩
      · have h00 : l.length = 0 := by omega
        have h01 : ¬ 0 < l.length := by omega
        clear h00
        go_wp2
        exact bodyPost_ret (v := .tuple #[.agg #[.int .i64 0, .int .i64 0, .int .i64 0], .int .i64 100]) (by simp [results, Try.results18, go_sem]) rfl ⟨HF.out, HB.out⟩
  · have hng : 0 ≤ a := by omega
    go_enter Try.func18, Try.ntmps18
    go_wp2
    go_loopw [6] (fun ix wr => ∃ k : Nat, k ≤ l.length ∧ ix = .int .i64 (k : Int) ∧ (seenN (l.take k) : Int) ≤ a ∧ wr = w.alloc (.cells #[.int .i64 0, .int .i64 0, .int .i64 0] 35)) (fun i _ => l.length - (intOf i).toNat)
    case atStart => exact ⟨0, by omega, rfl, by simpa [seenN] using hng, rfl⟩
    case round =>
      obtain ⟨k, hk, rfl, hle, rfl⟩ := hrel
      by_cases hlt : k < l.length
      · obtain ⟨b, off, rfl, hb, y0⟩ := bl_at HRB.out hlt
        have hsn := seenN_snoc hlt
        have hs1 := seenN_le (l.take k)
        rw [List.length_take] at hs1
        have hlz : (k : Int) < (l.length : Int) := by omega
        cases hs : l[k].2 with
        | true =>
          rw [hs] at hsn y0
          have HC2 := Lib.hid (HCC.out k (by omega))
          have hsn' : seenN (l.take (k + 1)) = seenN (l.take k) + 1 := by rw [hsn]; simp
          by_cases heq : (seenN (l.take k) : Int) = a
          · have ha2 := (seen_at hlt hs).2
            rw [heq] at ha2
            have HF0 : Hid (FindIs l a (.returned (.tuple #[nmV l[k].1, .int .i64 0]))) := .inl ⟨_, ha2, rfl⟩
            obtain ⟨b2, off2, rfl, hb2, z0, z1, z2⟩ := id_at HRA.out hlt
            obtain ⟨⟨x1, x2, x3⟩, hx⟩ : ∃ x, x = l[k].1 := ⟨_, rfl⟩
            rw [← hx] at z0 z1 z2 HF0
            rw [heq] at HC2
            simp only [nmV] at HF0
            have hb3 : b2 < w.heap.size ∨ b2 = w.heap.size := by simp at hb2; omega
            have HF := HF0
            clear hx ha2 hs hsn hsn' heq HF0 hle hs1
            go_wp2_with fail
            refine (HC2.out).mono ?_
            rintro e w2 ⟨rfl, hw⟩
            subst hw
            go_wp2
            exact bodyPost_ret (v := .tuple #[.agg #[.int .i64 x1, .int .i64 x2, .int .i64 x3], .int .i64 0]) (by simp [results, Try.results18, go_sem]) rfl ⟨HF.out, (Below.refl w.heap.size w).alloc (Nat.le_refl _) _⟩
          · have HS : Hid ((seenN (l.take (k + 1)) : Int) ≤ a) := by show _ ≤ _; omega
            have hne2 : ¬ (seenN (l.take k) : Int) = a := heq
            clear hs hsn hsn' hle
            generalize seenN (l.take k) = q at *
            go_wp2_with fail
            refine (HC2.out).mono ?_
            rintro e w2 ⟨rfl, hw⟩
            subst hw
            go_wp2
            go_roundw
            case rel => exact ⟨k + 1, by omega, by go_num, HS.out, by trivial⟩
            case measure => simp [intOf]; omega
        | false =>
          rw [hs] at hsn y0
          have HS : Hid ((seenN (l.take (k + 1)) : Int) ≤ a) := by show _ ≤ _; rw [hsn]; simpa using hle
          clear hs hsn hle
          go_wp2
          go_roundw
          case rel => exact ⟨k + 1, by omega, by go_num, HS.out, by trivial⟩
          case measure => simp [intOf]; omega
      · obtain rfl : k = l.length := by omega
        rw [List.take_length] at hle
        have HF : Hid (FindIs l a (.returned (.tuple #[.agg #[.int .i64 0, .int .i64 0, .int .i64 0], .int .i64 100]))) := .inr ⟨nth_none (.inr hle), rfl⟩
        clear hle
        go_wp2
        exact bodyPost_ret (v := .tuple #[.agg #[.int .i64 0, .int .i64 0, .int .i64 0], .int .i64 100]) (by simp [results, Try.results18, go_sem]) rfl ⟨HF.out, HB.out⟩

end Go.Proofs.Ytnbgnjpjdplocaa.Q10
