/-
  Layer 6, walks: the document's Split, Len, join.
-/
import Derived.Test.YtpdghmecodlhhaaP6i
namespace Go.Proofs.Ytpdghmecodlhhaa.P6
open Go.RowKit Go.PlainAid M6
set_option linter.unusedVariables false

/-- WHAT THE LOOP OF THE DOCUMENT's Split KEEPS. -/
def RspRel (cs : List Nat) (r : List UInt8) (w : World) (s v : Value) (wr : World) : Prop :=
  ∃ k : Nat, k ≤ cs.length ∧ s = .string (bs (flat (cs.drop k) ++ r)) ∧ wr.ownsRow w.heap.size 9 1 v k (pcs (cs.take k)) ∧ Below w.heap.size w wr
/-- What it answers. -/
def SplitE (cs : List Nat) (r : List UInt8) (w : World) (e : Ending) (w' : World) : Prop :=
  (r ≠ [] ∧ e = .returned (.tuple #[.slice none 0 0, .int .i64 60]) ∧ Below w.heap.size w w') ∨ (r = [] ∧ Split1 cs w e w')
def sizeOfStr (v : Value) : Nat := match v with | .string s => s.size | _ => 0

set_option maxRecDepth 100000 in
set_option maxHeartbeats 1000000 in
theorem refSplit_any (l : List UInt8) (cs : List Nat) (r : List UInt8) (h : Reads l cs r) (hz : l.length ≤ 1099511627776) (w : World) :
    Calls Try.prog 11 #[.string (bs l)] w (SplitE cs r w) := by
  obtain ⟨i0, hi0, hz0, hz1, hz2⟩ := info_parts info_str
  have hcl : cs.length ≤ l.length := by rw [h.split, List.length_append]; have := flat_len_le (cs := cs); omega
  have hfl : (flat cs).length + r.length ≤ 1099511627776 := by rw [h.split, List.length_append] at hz; exact hz
  have h0 : RspRel cs r w (.string (bs l)) (.slice none 0 0) w := ⟨0, by omega, by rw [h.split]; rfl, by simpa [pcs] using World.ownsRow_nil _ _ _ _, Below.refl _ _⟩
  have H0 := Lib.hid h0
  have H := Lib.hid h
  clear h0 h
  go_enter Try.func11, Try.ntmps11
  go_wp2
  go_loopw [0, 4] (fun s v wr => RspRel cs r w s v wr) (fun s _ _ => sizeOfStr s)
  case atStart => exact H0.out
  case round =>
    clear H0
    obtain ⟨k, hk, rfl, ho, hb⟩ := hrel
    have hB : w.heap.size ≤ wr.heap.size := hb.size
    have hdl : (flat (cs.drop k)).length ≤ (flat cs).length := by
      conv => rhs; rw [← List.take_append_drop k cs, flat_append, List.length_append]
      omega
    by_cases hlt : k < cs.length
    · have hcons : flat (cs.drop k) ++ r = enc cs[k] ++ (flat (cs.drop (k + 1)) ++ r) := by rw [List.drop_eq_getElem_cons hlt, flat_cons, List.append_assoc]
      have hv := H.out.ok _ (List.getElem_mem hlt)
      have hep := enc_pos cs[k]
      have HTK := Lib.hid (pcs_take cs k hlt)
      have hlr : (flat (cs.drop (k + 1)) ++ r).length ≤ 1099511627776 := by
        have e1 := congrArg List.length hcons
        simp only [List.length_append] at e1 ⊢
        omega
      have hfz : (flat (cs.drop k) ++ r).length ≤ 1099511627776 := by rw [List.length_append]; omega
      rw [hcons] at hfz ⊢
      clear hcons
      generalize hrs : flat (cs.drop (k + 1)) ++ r = rest at *
      generalize cs[k] = c at *
      have hpt := pt_enc hv rest
      have hne : enc c ++ rest ≠ [] := by intro e; have := congrArg List.length e; simp only [List.length_append, List.length_nil] at this; omega
      have hf := fun w => first_any hne (by omega) w
      rw [hpt] at hf
      have HF := Lib.hid hf
      have he1 : (bs (enc c ++ rest)).extract 0 (enc c).length = bs (enc c) := by rw [ext_pre, List.take_left]
      have he2 : (bs (enc c ++ rest)).extract (enc c).length (bs (enc c ++ rest)).size = bs rest := by rw [ext_end, bs_list, List.drop_left]
      have hle : (enc c).length ≤ (bs (enc c ++ rest)).size := by rw [bs_size, List.length_append]; omega
      have hpos : 0 < (bs (enc c ++ rest)).size := by omega
      have hms : (bs rest).size < (bs (enc c ++ rest)).size := by rw [bs_size, bs_size, List.length_append]; omega
      have HE1 := Lib.hid he1
      have HE2 := Lib.hid he2
      clear hf hpt hne hfz he1 he2 hv
      generalize bs (enc c ++ rest) = sx at *
      generalize (enc c).length = n at *
      go_wp2_with fail
      refine (HF.out _).mono ?_
      rintro e w1 ⟨rfl, rfl⟩
      unfold firstV
      go_wp2_with (at_builtin; refine wpList_append_own _ rfl (.tmp 19) (.tmp 23) 23 rfl w.heap.size 9 i0 (.string ⟨#[]⟩) 1 16 Try.underlying23 hi0 hz0 hz1 hz2 rfl (by decide) _ _ _ rfl (ho.alloc _) ⟨wr.heap.size, 0, none⟩ 1 1 _ rfl rfl (cell_one_new _ _ _) (by simp [Value.oneCell']) (by unfold maxLen; omega) (by omega) (by simp; omega) ?_; intro v1 w2 hown1 hg1 _)
      go_wp2
      have hb2 := (hb.alloc hB _).grown hg1 (by simp; omega) (fun q hq => (ho.lt q hq).1)
      rw [HE1.out] at hown1
      go_roundw
      case rel => exact ⟨k + 1, by omega, by rw [HE2.out, hrs], by rw [HTK.out]; exact hown1, hb2⟩
      case measure => rw [HE2.out]; exact hms
    · obtain rfl : k = cs.length := by omega
      have hdr : flat (cs.drop cs.length) ++ r = r := by rw [List.drop_length]; rfl
      rw [List.take_length] at ho
      rw [hdr]
      clear hdr hdl
      by_cases hr : r = []
      · have h0 : (bs r).size = 0 := by rw [bs_size, hr]; rfl
        obtain ⟨A, c, rfl, hrd, hc, _⟩ := Rd.of_own3 ho
        go_wp2
        go_ret2
        exact .inr ⟨hr, A, c, rfl, hrd, hc, hb⟩
      · have h0 : 0 < (bs r).size := by rw [bs_size]; exact List.length_pos_iff.2 hr
        have hf := fun w => first_any hr (by omega) w
        rw [H.out.stuck] at hf
        have HF := Lib.hid hf
        clear hf
        go_wp2_with fail
        refine (HF.out _).mono ?_
        rintro e w1 ⟨rfl, rfl⟩
        unfold firstV
        go_wp2
        go_ret2
        exact .inl ⟨hr, rfl, hb⟩

theorem refSplit_good {cs : List Nat} (h : Txt cs) (hz : (flat cs).length ≤ 1099511627776) (w : World) :
    Calls Try.prog 11 #[.string (bs (flat cs))] w (Split1 cs w) := by
  refine (refSplit_any (flat cs) cs [] (reads_flat h) hz w).mono ?_
  rintro e w' (⟨h1, _⟩ | ⟨_, h2⟩)
  · exact absurd rfl h1
  · exact h2
theorem refSplit_bad {l : List UInt8} (h : Bad l) (hz : l.length ≤ 1099511627776) (w : World) :
    Calls Try.prog 11 #[.string (bs l)] w fun e w' => e = .returned (.tuple #[.slice none 0 0, .int .i64 60]) ∧ Below w.heap.size w w' := by
  obtain ⟨cs, r, h, hr⟩ := h
  refine (refSplit_any l cs r h hz w).mono ?_
  rintro e w' (⟨_, h2, h3⟩ | ⟨h1, _⟩)
  · exact ⟨h2, h3⟩
  · exact absurd h1 hr

set_option maxRecDepth 100000 in
set_option maxHeartbeats 400000 in
theorem refLen_bad {l : List UInt8} (h : Bad l) (hz : l.length ≤ 1099511627776) (w : World) :
    Calls Try.prog 13 #[.string (bs l)] w fun e w' => e = .returned (.tuple #[.int .i64 0, .int .i64 60]) ∧ Below w.heap.size w w' := by
  have HR := Lib.hid (refSplit_bad h hz)
  clear h hz
  generalize bs l = s at *
  go_enter Try.func13, Try.ntmps13
  go_wp2_with fail
  refine (HR.out _).mono ?_
  rintro e w1 ⟨rfl, hb⟩
  go_wp2
  go_ret2
  exact ⟨rfl, hb⟩

set_option maxRecDepth 100000 in
set_option maxHeartbeats 400000 in
theorem refLen_good {cs : List Nat} (h : Txt cs) (hz : (flat cs).length ≤ 1099511627776) (w : World) :
    Calls Try.prog 13 #[.string (bs (flat cs))] w fun e w' => e = .returned (.tuple #[.int .i64 (cs.length : Int), .int .i64 0]) ∧ Below w.heap.size w w' := by
  have HR := Lib.hid (refSplit_good h hz)
  clear h hz
  generalize bs (flat cs) = s at *
  go_enter Try.func13, Try.ntmps13
  go_wp2_with fail
  refine (HR.out _).mono ?_
  rintro e w1 ⟨A, c, rfl, hr, _, hb⟩
  clear hr
  go_wp2
  go_ret2
  exact ⟨rfl, hb⟩

/-- WHAT THE LOOP OF join KEEPS. -/
def JoiRel (cs : List Nat) (s i : Value) : Prop := ∃ k : Nat, k ≤ cs.length ∧ i = .int .i64 (k : Int) ∧ s = .string (bs (flat (cs.take k)))

set_option maxRecDepth 100000 in
set_option maxHeartbeats 400000 in
theorem join_any {A : Option Addr} {n c : Nat} {cs : List Nat} {w : World} (hr : Rd w A (pcs cs)) (hn : cs.length = n) (hz : (flat cs).length ≤ 140737488351232) :
    Calls Try.prog 28 #[.slice A n c] w fun e w' => e = .returned (.string (bs (flat cs))) ∧ w = w' := by
  subst hn
  have hcl : cs.length ≤ 140737488351232 := Nat.le_trans flat_len_le hz
  have HR := Lib.hid hr
  clear hr
  go_enter Try.func28, Try.ntmps28
  go_wp2
  go_loop [3, 4] (fun s i => JoiRel cs s i) (fun _ i => cs.length - (intOf i).toNat)
  case atStart => exact ⟨0, by omega, rfl, rfl⟩
  case round =>
    obtain ⟨k, hk, rfl, rfl⟩ := hrel
    by_cases hlt : k < cs.length
    · obtain ⟨b, off, rfl, hbl, hc⟩ := HR.out.get (k := k) (by rw [pcs_len]; exact hlt)
      rw [pcs_get] at hc
      have HF := Lib.hid (flat_take cs k hlt)
      have hle : (flat (cs.take (k + 1))).length ≤ (flat cs).length := by
        conv => rhs; rw [← List.take_append_drop (k + 1) cs, flat_append, List.length_append]
        omega
      have hsz : (bs (flat (cs.take k))).size + (bs (enc cs[k])).size ≤ 9223372036854775807 := by
        rw [bs_size, bs_size]; rw [HF.out, List.length_append] at hle; omega
      have hd : decide ((k : Int) < (cs.length : Int)) = true := by simp; omega
      generalize cs[k] = ck at *
      go_wp2
      go_round
      case rel => exact ⟨k + 1, by omega, by go_num, by rw [HF.out, bs_join]⟩
      case measure => simp [intOf]; omega
    · obtain rfl : k = cs.length := by omega
      have hd : decide (((cs.length : Nat) : Int) < (cs.length : Int)) = false := by simp
      go_wp2
      go_ret
      exact ⟨rfl, rfl⟩

set_option maxRecDepth 100000 in
set_option maxHeartbeats 400000 in
theorem refCut_bad {l : List UInt8} (h : Bad l) (hz : l.length ≤ 1099511627776) (f t : Int) (w : World) :
    Calls Try.prog 16 #[.string (bs l), .int .i64 f, .int .i64 t] w fun e w' => e = .returned (.tuple #[.string ⟨#[]⟩, .int .i64 60]) ∧ Below w.heap.size w w' := by
  have HR := Lib.hid (refSplit_bad h hz)
  clear h hz
  generalize bs l = s at *
  go_enter Try.func16, Try.ntmps16
  go_wp2_with fail
  refine (HR.out _).mono ?_
  rintro e w1 ⟨rfl, hb⟩
  go_wp2
  go_ret2
  exact ⟨rfl, hb⟩

set_option maxRecDepth 100000 in
set_option maxHeartbeats 400000 in
theorem refCut_out {cs : List Nat} (h : Txt cs) (hz : (flat cs).length ≤ 1099511627776) {f t : Int} (ho : OutC cs f t) (w : World) :
    Calls Try.prog 16 #[.string (bs (flat cs)), .int .i64 f, .int .i64 t] w fun e w' => e = .returned (.tuple #[.string ⟨#[]⟩, .int .i64 100]) ∧ Below w.heap.size w w' := by
  have HR := Lib.hid (refSplit_good h hz)
  clear h hz
  unfold OutC at ho
  generalize bs (flat cs) = s at *
  go_enter Try.func16, Try.ntmps16
  go_wp2_with fail
  refine (HR.out _).mono ?_
  rintro e w1 ⟨A, c, rfl, hr, _, hb⟩
  clear hr HR
  go_wp2
  all_goals first | (go_ret2; exact ⟨rfl, hb⟩) | (exfalso; omega)

theorem sslice_lt {A : Option Addr} {n c f t : Nat} (h : f ≤ t) (h2 : t ≤ c) (w : World) :
    (Instr.slice 23 (.slice A n c) (some (.int .i64 (f : Int))) (some (.int .i64 (t : Int))) none).run Try.prog w = .ok (.slice (sub A c f) (t - f) (c - f)) w := by
  have h3 : (f : Int) ≤ (t : Int) := by omega
  have h4 : (t : Int) ≤ (c : Int) := by omega
  have h0 : (0 : Int) ≤ (f : Int) := by omega
  go_simp
  rfl
theorem sslice_to {A : Option Addr} {n c i : Nat} (h : i ≤ c) (w : World) :
    (Instr.slice 23 (.slice A n c) none (some (.int .i64 (i : Int))) none).run Try.prog w = .ok (.slice A i c) w := by
  have h2 : (i : Int) ≤ (c : Int) := by omega
  have h0 : (0 : Int) ≤ (i : Int) := by omega
  go_simp
theorem sslice_fr {A : Option Addr} {n c i : Nat} (h : i ≤ n) (w : World) :
    (Instr.slice 23 (.slice A n c) (some (.int .i64 (i : Int))) none none).run Try.prog w = .ok (.slice (sub A c i) (n - i) (c - i)) w := by
  have h2 : (i : Int) ≤ (n : Int) := by omega
  have h0 : (0 : Int) ≤ (i : Int) := by omega
  go_simp
  rfl
theorem pcs_sub {w : World} {A : Option Addr} {cs : List Nat} {c f t : Nat} (h : Rd w A (pcs cs)) (hc : cs.length ≤ c) (h1 : f ≤ t) (h2 : t ≤ cs.length) : Rd w (sub A c f) (pcs ((cs.drop f).take (t - f))) := by
  have := Rd.sub h (by rw [pcs_len]; exact hc) h1 (by rw [pcs_len]; exact h2)
  rw [show ((pcs cs).drop f).take (t - f) = pcs ((cs.drop f).take (t - f)) by simp [pcs, List.map_take, List.map_drop]] at this
  exact this
theorem flat_sub_le {cs : List Nat} (f n : Nat) : (flat ((cs.drop f).take n)).length ≤ (flat cs).length := by
  have h1 : (flat cs).length = (flat (cs.take f)).length + (flat (cs.drop f)).length := by
    conv => lhs; rw [← List.take_append_drop f cs, flat_append, List.length_append]
  have h2 : (flat (cs.drop f)).length = (flat ((cs.drop f).take n)).length + (flat ((cs.drop f).drop n)).length := by
    conv => lhs; rw [← List.take_append_drop n (cs.drop f), flat_append, List.length_append]
  omega

set_option maxRecDepth 100000 in
set_option maxHeartbeats 400000 in
theorem refCut_good {cs : List Nat} (h : Txt cs) (hz : (flat cs).length ≤ 1099511627776) {f t : Nat} (h1 : f ≤ t) (h2 : t ≤ cs.length) (w : World) :
    Calls Try.prog 16 #[.string (bs (flat cs)), .int .i64 (f : Int), .int .i64 (t : Int)] w fun e w' => e = .returned (.tuple #[.string (bs (flat ((cs.drop f).take (t - f)))), .int .i64 0]) ∧ Below w.heap.size w w' := by
  have HR := Lib.hid (refSplit_good h hz)
  have hfs := flat_sub_le (cs := cs) f (t - f)
  have hz2 : (flat ((cs.drop f).take (t - f))).length ≤ 140737488351232 := by omega
  have HZ2 := Lib.hid hz2
  clear h hz hfs hz2
  generalize bs (flat cs) = s at *
  go_enter Try.func16, Try.ntmps16
  go_wp2_with fail
  refine (HR.out _).mono ?_
  rintro e w1 ⟨A, c, rfl, hr, hc, hb⟩
  have hsub := pcs_sub hr hc h1 h2
  have hsl := sslice_lt (A := A) (n := cs.length) (c := c) h1 (by omega) w1
  have HS := Lib.hid hsub
  clear hr HR hsub
  generalize sub A c f = sa at *
  go_wp2_with fail
  refine (join_any HS.out (by simp; omega) HZ2.out).mono ?_
  rintro e w2 ⟨rfl, rfl⟩
  go_wp2
  go_ret2
  exact ⟨rfl, hb⟩

end Go.Proofs.Ytpdghmecodlhhaa.P6
