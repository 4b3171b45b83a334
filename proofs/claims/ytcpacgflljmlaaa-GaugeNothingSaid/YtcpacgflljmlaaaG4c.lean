/-
  Layer 4, walks: the numbers of a list, sums.
-/
import Derived.Test.YtcpacgflljmlaaaG4b
namespace Go.Proofs.Ytcpacgflljmlaaa.G4
open Go.RowKit Go.PlainAid
set_option linter.unusedVariables false

def fls (l : List Nat) : List Value := l.map fun (n : Nat) => Value.float .f64 n
theorem fls_len (l : List Nat) : (fls l).length = l.length := by simp [fls]
theorem fls_get (l : List Nat) (k : Nat) (h : k < (fls l).length) : (fls l)[k] = .float .f64 (l[k]'(by rw [fls_len] at h; exact h)) := by simp [fls]
theorem fls_snoc (l : List Nat) (n : Nat) : fls (l ++ [n]) = fls l ++ [Value.float .f64 n] := by simp [fls]
theorem info_f64 : (Try.prog.info? 24).map (fun i => (i.zero, i.size, i.bytes)) = some (some (.float .f64 0), 1, 8) := by kernel_rfl

/-- The floats of a list that are numbers. -/
def nums (l : List Nat) : List Nat := l.filter isfin
theorem nums_take (l : List Nat) (k : Nat) (h : k < l.length) : nums (l.take (k + 1)) = nums (l.take k) ++ if isfin l[k] then [l[k]] else [] := by
  unfold nums
  rw [List.take_succ_eq_append_getElem h, List.filter_append]
  congr 1
  by_cases hf : isfin l[k] = true <;> simp [hf]
theorem nums_len (l : List Nat) : (nums l).length ≤ l.length := List.length_filter_le _ _
theorem nums_len_take (l : List Nat) (k : Nat) : (nums (l.take k)).length ≤ k := by
  have := nums_len (l.take k); rw [List.length_take] at this; omega
def Fl (l : List Nat) : Prop := ∀ x ∈ l, x < 18446744073709551616

/-- WHAT THE LOOP OF numbers KEEPS. -/
def NumRel (l : List Nat) (w : World) (v i : Value) (wr : World) : Prop :=
  ∃ k : Nat, k ≤ l.length ∧ i = .int .i64 (k : Int) ∧ wr.ownsRow w.heap.size 24 1 v (nums (l.take k)).length (fls (nums (l.take k))) ∧ Below w.heap.size w wr

set_option maxRecDepth 100000 in
set_option maxHeartbeats 400000 in
theorem numbers_any (A : Option Addr) (n c : Nat) (l : List Nat) (w : World) (ha : Rd w A (fls l)) (hn : l.length = n) (hf : Fl l) (hle : n ≤ 1000000000) :
    Calls Try.prog 33 #[.slice A n c] w fun e w' => ∃ v, e = .returned v ∧ w'.ownsRow w.heap.size 24 1 v (nums l).length (fls (nums l)) ∧ Below w.heap.size w w' := by
  subst hn
  obtain ⟨i0, hi0, hz0, hz1, hz2⟩ := info_parts info_f64
  have HA := Lib.hid ha
  have HF := Lib.hid hf
  have h0 : NumRel l w (.slice none 0 0) (.int .i64 0) w := ⟨0, by omega, rfl, World.ownsRow_nil _ _ _ _, Below.refl _ _⟩
  have H0 := Lib.hid h0
  clear ha h0 hf
  go_enter Try.func33, Try.ntmps33
  go_wp2
  go_loopw [3, 5, 8] (fun v _ i wr => NumRel l w v i wr) (fun _ _ i _ => l.length - (intOf i).toNat)
  case atStart => exact H0.out
  case round =>
    obtain ⟨k, hk, rfl, ho, hb⟩ := hrel
    clear H0
    have hB : w.heap.size ≤ wr.heap.size := hb.size
    by_cases hlt : k < l.length
    · have h1 := HA.out.keep hb
      obtain ⟨b, off, rfl, hbl, hc⟩ := h1.get (k := k) (by rw [fls_len]; exact hlt)
      rw [fls_get] at hc
      have hfk := HF.out l[k] (List.getElem_mem hlt)
      have HN := Lib.hid (nums_take l k hlt)
      have hnl := nums_len_take l k
      have hnl2 := nums_len_take l (k + 1)
      clear h1
      cases hnan : isnan l[k]
      · have pn := isNaN_any l[k] wr
        rw [hnan] at pn
        have pi := isInf_any l[k] wr hfk
        cases hfin : isfin l[k]
        · have hr : rung l[k] = 9218868437227405312 := (fin_or hnan).resolve_left (by rw [hfin]; exact Bool.false_ne_true)
          rw [decide_eq_true hr] at pi
          rw [hfin] at HN
          have HN' := Lib.hid (HN.out.trans (List.append_nil _))
          clear HN hfin hnan
          go_wp2_with fail
          refine pn.mono ?_
          rintro e w1 ⟨rfl, rfl⟩
          go_wp2_with fail
          refine pi.mono ?_
          rintro e w1 ⟨rfl, rfl⟩
          go_wp2
          go_roundw
          case rel => exact ⟨k + 1, by omega, by go_num, by rw [HN'.out]; exact ho, hb⟩
          case measure => simp [intOf]; omega
        · have hr : ¬ rung l[k] = 9218868437227405312 := by unfold isfin at hfin; simp at hfin; omega
          rw [decide_eq_false hr] at pi
          rw [hfin] at HN
          have HN' : RowKit.Hid (nums (l.take (k + 1)) = nums (l.take k) ++ [l[k]]) := Lib.hid (by rw [HN.out]; rfl)
          clear HN hfin hnan
          go_wp2_with fail
          refine pn.mono ?_
          rintro e w1 ⟨rfl, rfl⟩
          go_wp2_with fail
          refine pi.mono ?_
          rintro e w1 ⟨rfl, rfl⟩
          go_wp2_with (at_builtin; refine wpList_append_own _ rfl (.tmp 20) (.tmp 22) 32 rfl w.heap.size 24 i0 (.float .f64 0) 1 8 Try.underlying32 hi0 hz0 hz1 hz2 rfl (by decide) _ _ _ rfl (ho.alloc _) ⟨wr.heap.size, 0, none⟩ 1 1 [.float .f64 l[k]] rfl rfl (cell_one_new _ _ _) ?c2 ?c3 ?c4 ?c5 ?_)
          case c2 => simp [Value.oneCell']
          case c3 => unfold maxLen; omega
          case c4 => omega
          case c5 => first | omega | (simp; omega)
          intro v1 w1 hown1 hg1 _
          go_wp2
          go_roundw
          case rel => exact ⟨k + 1, by omega, by go_num, by rw [HN'.out, fls_snoc, List.length_append]; exact hown1, (hb.alloc hB _).grown hg1 (by simp; omega) (fun q hq => (ho.lt q hq).1)⟩
          case measure => simp [intOf]; omega
      · have pn := isNaN_any l[k] wr
        rw [hnan] at pn
        rw [nan_fin hnan] at HN
        have HN' := Lib.hid (HN.out.trans (List.append_nil _))
        clear HN hnan
        go_wp2_with fail
        refine pn.mono ?_
        rintro e w1 ⟨rfl, rfl⟩
        go_wp2
        go_roundw
        case rel => exact ⟨k + 1, by omega, by go_num, by rw [HN'.out]; exact ho, hb⟩
        case measure => simp [intOf]; omega
    · obtain rfl : k = l.length := by omega
      rw [List.take_length] at ho
      go_wp2
      go_ret
      exact ⟨_, rfl, ho, hb⟩

set_option maxRecDepth 100000 in
set_option maxHeartbeats 400000 in
theorem sum_any (A : Option Addr) (n c : Nat) (l : List Nat) (w : World) (ha : Rd w A (fls l)) (hn : l.length = n) (hf : Fl l) (hle : n ≤ 9223372036854775807) :
    Calls Try.prog 25 #[.slice A n c] w fun e w' => ∃ r, e = .returned (.float .f64 r) ∧ Is (sumOf l) r ∧ Below w.heap.size w w' := by
  subst hn
  have HA := Lib.hid ha
  have HF := Lib.hid hf
  clear ha hf
  go_enter Try.func25, Try.ntmps25
  go_wp2
  go_loopw [3, 5, 8] (fun v _ i wr => ∃ k r : Nat, k ≤ l.length ∧ i = .int .i64 (k : Int) ∧ v = .float .f64 r ∧ RowKit.Hid (Is (sumOf (l.take k)) r) ∧ Below w.heap.size w wr) (fun _ _ i _ => l.length - (intOf i).toNat)
  case atStart => exact ⟨0, 0, by omega, rfl, rfl, Lib.hid ⟨by decide, rfl⟩, Below.refl _ _⟩
  case round =>
    obtain ⟨k, r, hk, rfl, rfl, HS, hb⟩ := hrel
    by_cases hlt : k < l.length
    · have h1 := HA.out.keep hb
      obtain ⟨b, off, rfl, hbl, hc⟩ := h1.get (k := k) (by rw [fls_len]; exact hlt)
      rw [fls_get] at hc
      have HT := Lib.hid (sumOf_take l k hlt)
      clear h1
      cases hnan : isnan l[k]
      · have pn := isNaN_any l[k] wr
        rw [hnan] at pn
        obtain ⟨r', q, hi, hr⟩ := run_float Try.prog wr .add 24 r l[k] (.inl rfl)
        have HI := Lib.hid hi
        have HE := Lib.hid (sumStep_is HS.out hnan)
        clear hnan hi
        go_wp2_with fail
        refine pn.mono ?_
        rintro e w1 ⟨rfl, rfl⟩
        go_wp2
        go_roundw
        case rel => exact ⟨k + 1, r', by omega, by go_num, rfl, Lib.hid (by rw [HT.out, HE.out]; exact HI.out), below_drewN hb q⟩
        case measure => simp [intOf]; omega
      · have pn := isNaN_any l[k] wr
        rw [hnan] at pn
        have HE := Lib.hid (sumStep_nan (s := sumOf (l.take k)) hnan)
        clear hnan
        go_wp2_with fail
        refine pn.mono ?_
        rintro e w1 ⟨rfl, rfl⟩
        go_wp2
        go_roundw
        case rel => exact ⟨k + 1, r, by omega, by go_num, rfl, Lib.hid (by rw [HT.out, HE.out]; exact HS.out), hb⟩
        case measure => simp [intOf]; omega
    · obtain rfl : k = l.length := by omega
      rw [List.take_length] at HS
      go_wp2
      go_ret
      exact ⟨r, rfl, HS.out, hb⟩

set_option maxRecDepth 100000 in
set_option maxHeartbeats 400000 in
theorem refSum_any (A : Option Addr) (n c : Nat) (l : List Nat) (w : World) (ha : Rd w A (fls l)) (hn : l.length = n) (hf : Fl l) (hle : n ≤ 9223372036854775807) :
    Calls Try.prog 26 #[.slice A n c] w fun e w' => ∃ r, e = .returned (.float .f64 r) ∧ Is (sumOf l) r ∧ Below w.heap.size w w' := by
  subst hn
  have HA := Lib.hid ha
  have HF := Lib.hid hf
  clear ha hf
  go_enter Try.func26, Try.ntmps26
  go_wp2
  go_loopw [3, 4] (fun v i wr => ∃ k r : Nat, k ≤ l.length ∧ i = .int .i64 (k : Int) ∧ v = .float .f64 r ∧ RowKit.Hid (Is (sumOf (l.take k)) r) ∧ Below w.heap.size w wr) (fun _ i _ => l.length - (intOf i).toNat)
  case atStart => exact ⟨0, 0, by omega, rfl, rfl, Lib.hid ⟨by decide, rfl⟩, Below.refl _ _⟩
  case round =>
    obtain ⟨k, r, hk, rfl, rfl, HS, hb⟩ := hrel
    by_cases hlt : k < l.length
    · have h1 := HA.out.keep hb
      obtain ⟨b, off, rfl, hbl, hc⟩ := h1.get (k := k) (by rw [fls_len]; exact hlt)
      rw [fls_get] at hc
      have HT := Lib.hid (sumOf_take l k hlt)
      clear h1
      cases hnan : isnan l[k]
      · have hd : (FloatKind.f64.format.order l[k] l[k] == some .eq) = true := (f_eql_self _).trans (by rw [hnan]; rfl)
        have HE := Lib.hid (sumStep_is HS.out hnan)
        clear hnan
        go_wp2_with fail
        go_quiet (fail)
        obtain ⟨r', q, hi, hr⟩ := run_float Try.prog (wr.drewN nq) .add 24 r l[k] (.inl rfl)
        have HI := Lib.hid hi
        clear hi
        go_wp2
        go_roundw
        case rel => exact ⟨k + 1, r', by omega, by go_num, rfl, Lib.hid (by rw [HT.out, HE.out]; exact HI.out), below_drewN hb (nq + q)⟩
        case measure => simp [intOf]; omega
      · have hd : (FloatKind.f64.format.order l[k] l[k] == some .eq) = false := (f_eql_self _).trans (by rw [hnan]; rfl)
        have HE := Lib.hid (sumStep_nan (s := sumOf (l.take k)) hnan)
        clear hnan
        go_wp2_with fail
        go_quiet (fail)
        go_wp2
        go_roundw
        case rel => exact ⟨k + 1, r, by omega, by go_num, rfl, Lib.hid (by rw [HT.out, HE.out]; exact HS.out), below_drewN hb nq⟩
        case measure => simp [intOf]; omega
    · obtain rfl : k = l.length := by omega
      rw [List.take_length] at HS
      go_wp2
      go_ret
      exact ⟨r, rfl, HS.out, hb⟩

end Go.Proofs.Ytcpacgflljmlaaa.G4
