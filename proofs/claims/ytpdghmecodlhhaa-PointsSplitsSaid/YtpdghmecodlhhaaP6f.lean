/-
  Layer 6, walks: Find.
-/
import Derived.Test.YtpdghmecodlhhaaP6e
namespace Go.Proofs.Ytpdghmecodlhhaa.P6
open Go.RowKit Go.PlainAid M6
set_option linter.unusedVariables false

/-- How far the program's search has come. -/
def Prog (nm cs : List Nat) (i b : Nat) (ps : List (Nat × Nat)) : Prop :=
  (i ≤ cs.length ∧ b ≤ i ∧ (∀ c ∈ (cs.drop b).take (i - b), partN c = true) ∧ ps ++ spans nm b (cutT (cs.drop b)).1 (cutT (cs.drop b)).2 = found nm cs) ∨
  (i = cs.length + 1 ∧ ps = found nm cs)
theorem prog_zero (nm cs : List Nat) : Prog nm cs 0 0 [] := .inl ⟨by omega, by omega, by simp, by simp [found]⟩
theorem Prog.part {nm cs : List Nat} {i b : Nat} {ps : List (Nat × Nat)} (h : Prog nm cs i b ps) (hi : i < cs.length) (hp : partN cs[i] = true) : Prog nm cs (i + 1) b ps := by
  rcases h with ⟨h1, h2, h3, h4⟩ | ⟨h1, _⟩
  · refine .inl ⟨by omega, by omega, ?_, h4⟩
    intro c hc
    rw [show i + 1 - b = (i - b) + 1 by omega, List.take_succ_eq_append_getElem (by rw [List.length_drop]; omega)] at hc
    rcases List.mem_append.1 hc with hc | hc
    · exact h3 c hc
    · rw [List.mem_singleton.1 hc, List.getElem_drop]
      have : b + (i - b) = i := by omega
      simp only [this]
      exact hp
  · omega
theorem Prog.stop {nm cs : List Nat} {i b : Nat} {ps : List (Nat × Nat)} (h : Prog nm cs i b ps) (hi : i = cs.length ∨ ∃ hi : i < cs.length, partN cs[i] = false) :
    Prog nm cs (i + 1) (i + 1) (ps ++ if (cs.drop b).take (i - b) = nm then [(b, i)] else []) := by
  rcases h with ⟨h1, h2, h3, h4⟩ | ⟨h1, _⟩
  · rcases hi with rfl | ⟨hi, hp⟩
    · rw [spans_last (by omega) h3] at h4
      exact .inr ⟨rfl, h4⟩
    · rw [spans_end h2 hi h3 hp] at h4
      exact .inl ⟨by omega, by omega, by simp, by rw [List.append_assoc]; exact h4⟩
  · rcases hi with rfl | ⟨hi, hp⟩ <;> omega
theorem Prog.row {nm cs : List Nat} {i b : Nat} {ps : List (Nat × Nat)} (h : Prog nm cs i b ps) (hi : i ≤ cs.length) : b ≤ i ∧ ∀ c ∈ (cs.drop b).take (i - b), partN c = true := by
  rcases h with ⟨_, h2, h3, _⟩ | ⟨h1, _⟩
  · exact ⟨h2, h3⟩
  · omega
theorem Prog.len {nm cs : List Nat} {i b : Nat} {ps : List (Nat × Nat)} (h : Prog nm cs i b ps) (hn : nm ≠ []) : ps.length ≤ cs.length := by
  have := found_le hn cs
  rcases h with ⟨_, _, _, h4⟩ | ⟨_, h4⟩
  · have := congrArg List.length h4
    rw [List.length_append] at this; omega
  · rw [h4]; exact this
theorem Prog.all {nm cs : List Nat} {i b : Nat} {ps : List (Nat × Nat)} (h : Prog nm cs i b ps) (hi : i = cs.length + 1) : ps = found nm cs := by
  rcases h with ⟨h1, _⟩ | ⟨_, h4⟩
  · omega
  · exact h4

/-- Two rows of the call's own lie apart. -/
def Apart (v u : Value) : Prop := v.ownBlock = none ∨ v.ownBlock ≠ u.ownBlock
theorem Apart.symm {v u : Value} (h : Apart v u) : u.ownBlock = none ∨ u.ownBlock ≠ v.ownBlock := by
  rcases h with h | h
  · rw [h]; cases u.ownBlock <;> simp
  · exact .inr (fun e => h e.symm)
theorem fst_ints (ps : List (Nat × Nat)) (p : Nat × Nat) : ints ((ps ++ [p]).map Prod.fst) = ints (ps.map Prod.fst) ++ [Value.int .i64 (p.1 : Int)] := by simp [ints]
theorem snd_ints (ps : List (Nat × Nat)) (p : Nat × Nat) : ints ((ps ++ [p]).map Prod.snd) = ints (ps.map Prod.snd) ++ [Value.int .i64 (p.2 : Int)] := by simp [ints]

/-- Both rows of what was found. -/
def Pair (base : Nat) (v u : Value) (ps : List (Nat × Nat)) (w : World) : Prop :=
  w.ownsRow base 3 1 v ps.length (ints (ps.map Prod.fst)) ∧ w.ownsRow base 3 1 u ps.length (ints (ps.map Prod.snd)) ∧ Apart v u
theorem Pair.below {base : Nat} {v u : Value} {ps : List (Nat × Nat)} {w w' : World} (h : Pair base v u ps w) (hb : Below w.heap.size w w') : Pair base v u ps w' :=
  ⟨own_keep h.1 hb, own_keep h.2.1 hb, h.2.2⟩

theorem Pair.mid {base : Nat} {v u : Value} {ps : List (Nat × Nat)} {wr w4 : World} {o1 : Obj} (h : Pair base v u ps wr) (hg1 : (wr.alloc o1).grownBy w4 v.ownBlock) :
    w4.ownsRow base 3 1 u ps.length (ints (ps.map Prod.snd)) := (h.2.1.alloc o1).kept hg1 h.2.2.symm
theorem Pair.step {base : Nat} {v u v' u' : Value} {ps : List (Nat × Nat)} {wr w4 w5 : World} {o1 o2 : Obj} {b i : Nat} (h : Pair base v u ps wr)
    (hown1 : w4.ownsRow base 3 1 v' (ps.length + 1) (ints (ps.map Prod.fst) ++ [Value.int .i64 (b : Int)])) (hg1 : (wr.alloc o1).grownBy w4 v.ownBlock) (hat1 : v'.ownBlock = v.ownBlock ∨ v'.ownBlock = some (wr.alloc o1).heap.size)
    (hown2 : w5.ownsRow base 3 1 u' (ps.length + 1) (ints (ps.map Prod.snd) ++ [Value.int .i64 (i : Int)])) (hg2 : (w4.alloc o2).grownBy w5 u.ownBlock) (hat2 : u'.ownBlock = u.ownBlock ∨ u'.ownBlock = some (w4.alloc o2).heap.size) :
    Pair base v' u' (ps ++ [(b, i)]) w5 := by
  obtain ⟨h1, h2, h3⟩ := h
  have hu : ∀ g, u.ownBlock = some g → g < wr.heap.size := fun g hg => (h2.lt g hg).2
  have hv' : ∀ g, v'.ownBlock = some g → g < w4.heap.size := fun g hg => (hown1.lt g hg).2
  have hsz := hg1.size
  rw [World.size_alloc] at hsz
  have k1 : v'.ownBlock = none ∨ v'.ownBlock ≠ u.ownBlock := by
    rcases hat1 with e | e
    · rw [e]; exact h3
    · refine .inr (fun e2 => ?_)
      rw [e2] at e
      have := hu _ e
      rw [World.size_alloc] at this
      omega
  refine ⟨?_, ?_, ?_⟩
  · rw [fst_ints, List.length_append]
    exact (hown1.alloc o2).kept hg2 k1
  · rw [snd_ints, List.length_append]
    exact hown2
  · rcases hat2 with e | e
    · unfold Apart; rw [e]; exact k1
    · refine .inr (fun e2 => ?_)
      rw [e] at e2
      have := hv' _ e2
      rw [World.size_alloc] at this
      omega
theorem Pair.stepBelow {base : Nat} {v u v' : Value} {ps : List (Nat × Nat)} {w2 wr w4 w5 : World} {o1 o2 : Obj} (h : Pair base v u ps wr) (hb : Below base w2 wr) (hB : base ≤ wr.heap.size)
    (hg1 : (wr.alloc o1).grownBy w4 v.ownBlock) (hg2 : (w4.alloc o2).grownBy w5 u.ownBlock) : Below base w2 w5 := by
  have hsz := hg1.size
  rw [World.size_alloc] at hsz
  have b1 := (hb.alloc hB o1).grown hg1 (by rw [World.size_alloc]; omega) (fun q hq => (h.1.lt q hq).1)
  exact (b1.alloc (by omega) o2).grown hg2 (by rw [World.size_alloc]; omega) (fun q hq => (h.2.1.lt q hq).1)

/-- WHAT THE LOOP OF Find KEEPS. -/
def FindRel (nm cs : List Nat) (w1 : World) (v u sb si : Value) (wr : World) : Prop :=
  ∃ (i b : Nat) (ps : List (Nat × Nat)), i ≤ cs.length + 1 ∧ si = .int .i64 (i : Int) ∧ sb = .int .i64 (b : Int) ∧ Prog nm cs i b ps ∧ Pair w1.heap.size v u ps wr ∧ Below w1.heap.size w1 wr
/-- What Find answers of a text and an identifier. -/
def Found1 (nm cs : List Nat) (w : World) (e : Ending) (w' : World) : Prop :=
  ∃ A c B d, e = .returned (.tuple #[.slice A (found nm cs).length c, .slice B (found nm cs).length d, .int .i64 0]) ∧ Rd w' A (ints ((found nm cs).map Prod.fst)) ∧ Rd w' B (ints ((found nm cs).map Prod.snd)) ∧ Below w.heap.size w w'

theorem slice_lt {A : Option Addr} {n c f t : Nat} (h : f ≤ t) (h2 : t ≤ c) (w : World) :
    (Instr.slice 49 (.slice A n c) (some (.int .i64 (f : Int))) (some (.int .i64 (t : Int))) none).run Try.prog w = .ok (.slice (sub A c f) (t - f) (c - f)) w := by
  have h3 : (f : Int) ≤ (t : Int) := by omega
  have h4 : (t : Int) ≤ (c : Int) := by omega
  have h0 : (0 : Int) ≤ (f : Int) := by omega
  go_simp
  rfl

set_option maxRecDepth 100000 in
set_option maxHeartbeats 1000000 in
theorem find_good {cs : List Nat} (h : Txt cs) (hz : (flat cs).length ≤ 1099511627776) {nm : List UInt8} (hn : identB nm = true) (hz2 : nm.length ≤ 1099511627776) (w : World) :
    Calls Try.prog 19 #[.string (bs (flat cs)), .string (bs nm)] w (Found1 (nums nm) cs w) := by
  obtain ⟨i0, hi0, hz0, hz1, hz3⟩ := info_parts info_int
  have HT := Lib.hid h
  have HR := Lib.hid (read_good h hz)
  have hid := ident_any nm (by omega)
  rw [hn] at hid
  have HI := Lib.hid hid
  have hcl : cs.length ≤ 1099511627776 := Nat.le_trans flat_len_le hz
  have hnl := Lib.hid (identB_parts hn)
  have hne : nums nm ≠ [] := by have := identB_ne hn; unfold nums; simpa using this
  have HN := Lib.hid hne
  clear h hz hid hn hne
  generalize bs (flat cs) = s at *
  go_enter Try.func19, Try.ntmps19
  go_wp2_with fail
  refine (HR.out _).mono ?_
  rintro e w1 ⟨A, c, rfl, hr, hc, hm, hb⟩
  have HRD := Lib.hid hr
  clear hr HR
  go_wp2_with fail
  refine (HI.out _).mono ?_
  rintro e w2 ⟨rfl, hb2⟩
  have hrd := HRD.out.keep hb2
  have HRD := Lib.hid hrd
  have hbb := chain hb hb2
  clear hrd hb hb2 HI
  have h0 : FindRel (nums nm) cs w2 (.slice none 0 0) (.slice none 0 0) (.int .i64 0) (.int .i64 0) w2 :=
    ⟨0, 0, [], by omega, rfl, rfl, prog_zero _ _, ⟨World.ownsRow_nil _ _ _ _, World.ownsRow_nil _ _ _ _, .inl rfl⟩, Below.refl _ _⟩
  have H0 := Lib.hid h0
  clear h0
  go_wp2
  go_loopw [4, 5, 8, 24] (fun v u sb si wr => FindRel (nums nm) cs w2 v u sb si wr) (fun _ _ _ si _ => cs.length + 1 - (intOf si).toNat)
  case atStart => exact H0.out
  case round =>
    clear H0
    obtain ⟨i, b, ps, hi, rfl, rfl, hpr, hpa, hbw⟩ := hrel
    have HP := Lib.hid hpr
    have HA := Lib.hid hpa
    have hpl := hpr.len HN.out
    clear hpr hpa
    by_cases hend : i = cs.length + 1
    · have he := HP.out.all hend
      subst he
      obtain ⟨o1, o2, _⟩ := HA.out
      obtain ⟨B1, d1, rfl, r1, _⟩ := Rd.of_own3 o1
      obtain ⟨B2, d2, rfl, r2, _⟩ := Rd.of_own3 o2
      have hlt : ¬ ((i : Int) < (cs.length : Int) + 1) := by omega
      clear HP HA o1 o2
      go_wp2
      go_ret3
      exact ⟨_, _, _, _, rfl, r1, r2, chain hbb hbw⟩
    · have hlt : ((i : Int) < (cs.length : Int) + 1) := by omega
      have hrd := HRD.out.keep hbw
      by_cases hil : i < cs.length
      · obtain ⟨b0, off, rfl, hbl, hcell⟩ := hrd.get (k := i) (by rw [rns_len]; exact hil)
        rw [rns_get] at hcell
        have hpp := part_any cs[i]
        cases hpi : partN cs[i] with
        | true =>
          have HP2 := Lib.hid (HP.out.part hil hpi)
          rw [hpi] at hpp
          have HPP := Lib.hid hpp
          clear hpp hpi HP hrd
          generalize cs[i] = ci at hcell HPP
          go_wp2_with fail
          refine (HPP.out _).mono ?_
          rintro e w3 ⟨rfl, rfl⟩
          go_wp2
          go_roundw
          case rel => exact ⟨i + 1, b, ps, by omega, by go_num, rfl, HP2.out, HA.out, hbw⟩
          case measure => simp [intOf]; omega
        | false =>
          have HP2 := Lib.hid (HP.out.stop (.inr ⟨hil, hpi⟩))
          obtain ⟨hbi, hrow⟩ := HP.out.row (by omega)
          have hsub := Rd.sub hrd (f := b) (t := i) (by rw [rns_len]; exact hc) hbi (by rw [rns_len]; omega)
          rw [show ((rns cs).drop b).take (i - b) = rns ((cs.drop b).take (i - b)) by simp [rns, List.map_take, List.map_drop]] at hsub
          have hcv := rd_string (c := c - b) hsub (n := i - b) (by simp; omega) ((HT.out.drop b).take (i - b))
          have hfr := flat_row hrow hnl.out
          have hic : i ≤ c := by omega
          have hsl := slice_lt (A := some ⟨b0, off, none⟩) (n := cs.length) hbi hic wr
          rw [hpi] at hpp
          have HPP := Lib.hid hpp
          have HR2 := Lib.hid hrow
          clear hpp hpi HP hrd hrow hsub
          generalize cs[i] = ci at hcell HPP
          generalize (cs.drop b).take (i - b) = row at *
          generalize sub (some ⟨b0, off, none⟩) c b = sa at hcv hsl
          by_cases hrn : row = nums nm
          · have heq : ((bs (flat row)).toList == (bs nm).toList) = true := by rw [bs_toList, bs_toList, hfr.2 hrn]; simp
            rw [if_pos hrn] at HP2
            clear hfr HR2 hrn
            go_wp2_with fail
            refine (HPP.out _).mono ?_
            rintro e w3 ⟨rfl, rfl⟩
            have hBw : w2.heap.size ≤ wr.heap.size := hbw.size
            go_wp2_with (first
              | (at_builtin; refine wpList_append_own_at _ rfl (.tmp 45) (.tmp 47) 35 rfl w2.heap.size 3 i0 (.int .i64 0) 1 8 Try.underlying35 hi0 hz0 hz1 hz3 rfl (by decide) _ _ _ rfl (HA.out.1.alloc _) ⟨wr.heap.size, 0, none⟩ 1 1 _ rfl rfl (cell_one_new _ _ _) (by simp [Value.oneCell']) (by unfold maxLen; omega) (by omega) (by simp; omega) ?_; intro v1 w4 hown1 hg1 _ hat1; have hmid := HA.out.mid hg1; have hsz4 := hg1.size; rw [World.size_alloc] at hsz4)
              | (at_builtin; refine wpList_append_own_at _ rfl (.tmp 49) (.tmp 51) 35 rfl w2.heap.size 3 i0 (.int .i64 0) 1 8 Try.underlying35 hi0 hz0 hz1 hz3 rfl (by decide) _ _ _ rfl (hmid.alloc _) ⟨w4.heap.size, 0, none⟩ 1 1 _ rfl rfl (cell_one_new _ _ _) (by simp [Value.oneCell']) (by unfold maxLen; omega) (by omega) (by simp; omega) ?_; intro v2 w5 hown2 hg2 _ hat2))
            have hpa2 := HA.out.step hown1 hg1 hat1 hown2 hg2 hat2
            have hbw2 := HA.out.stepBelow (v' := v1) hbw hBw hg1 hg2
            clear hg1 hat1 hg2 hat2 hown1 hown2 hmid
            go_wp2
            go_roundw
            case rel => exact ⟨i + 1, i + 1, ps ++ [(b, i)], by omega, by go_num, by go_num, HP2.out, hpa2, hbw2⟩
            case measure => simp [intOf]; omega
          · have heq : ((bs (flat row)).toList == (bs nm).toList) = false := by
              rw [bs_toList, bs_toList]
              cases he : (flat row == nm)
              · rfl
              · exact absurd (hfr.1 (by simpa using he)) hrn
            rw [if_neg hrn, List.append_nil] at HP2
            clear hfr HR2 hrn
            go_wp2_with fail
            refine (HPP.out _).mono ?_
            rintro e w3 ⟨rfl, rfl⟩
            go_wp2
            go_roundw
            case rel => exact ⟨i + 1, i + 1, ps, by omega, by go_num, by go_num, HP2.out, HA.out, hbw⟩
            case measure => simp [intOf]; omega
      · have hil2 : i = cs.length := by omega
        have HP2 := Lib.hid (HP.out.stop (.inl hil2))
        obtain ⟨hbi, hrow⟩ := HP.out.row (by omega)
        have hsub := Rd.sub hrd (f := b) (t := i) (by rw [rns_len]; exact hc) hbi (by rw [rns_len]; omega)
        rw [show ((rns cs).drop b).take (i - b) = rns ((cs.drop b).take (i - b)) by simp [rns, List.map_take, List.map_drop]] at hsub
        have hcv := rd_string (c := c - b) hsub (n := i - b) (by simp; omega) ((HT.out.drop b).take (i - b))
        have hfr := flat_row hrow hnl.out
        have hic : i ≤ c := by omega
        have hsl := slice_lt (A := A) (n := cs.length) hbi hic wr
        have HR2 := Lib.hid hrow
        have hile : i ≤ cs.length := by omega
        clear HP hrd hrow hsub hil2
        generalize (cs.drop b).take (i - b) = row at *
        generalize sub A c b = sa at hcv hsl
        by_cases hrn : row = nums nm
        · have heq : ((bs (flat row)).toList == (bs nm).toList) = true := by rw [bs_toList, bs_toList, hfr.2 hrn]; simp
          rw [if_pos hrn] at HP2
          clear hfr HR2 hrn
          have hBw : w2.heap.size ≤ wr.heap.size := hbw.size
          go_wp2_with (first
            | (at_builtin; refine wpList_append_own_at _ rfl (.tmp 45) (.tmp 47) 35 rfl w2.heap.size 3 i0 (.int .i64 0) 1 8 Try.underlying35 hi0 hz0 hz1 hz3 rfl (by decide) _ _ _ rfl (HA.out.1.alloc _) ⟨wr.heap.size, 0, none⟩ 1 1 _ rfl rfl (cell_one_new _ _ _) (by simp [Value.oneCell']) (by unfold maxLen; omega) (by omega) (by simp; omega) ?_; intro v1 w4 hown1 hg1 _ hat1; have hmid := HA.out.mid hg1; have hsz4 := hg1.size; rw [World.size_alloc] at hsz4)
            | (at_builtin; refine wpList_append_own_at _ rfl (.tmp 49) (.tmp 51) 35 rfl w2.heap.size 3 i0 (.int .i64 0) 1 8 Try.underlying35 hi0 hz0 hz1 hz3 rfl (by decide) _ _ _ rfl (hmid.alloc _) ⟨w4.heap.size, 0, none⟩ 1 1 _ rfl rfl (cell_one_new _ _ _) (by simp [Value.oneCell']) (by unfold maxLen; omega) (by omega) (by simp; omega) ?_; intro v2 w5 hown2 hg2 _ hat2))
          have hpa2 := HA.out.step hown1 hg1 hat1 hown2 hg2 hat2
          have hbw2 := HA.out.stepBelow (v' := v1) hbw hBw hg1 hg2
          clear hg1 hat1 hg2 hat2 hown1 hown2 hmid
          go_wp2
          go_roundw
          case rel => exact ⟨i + 1, i + 1, ps ++ [(b, i)], by omega, by go_num, by go_num, HP2.out, hpa2, hbw2⟩
          case measure => simp [intOf]; omega
        · have heq : ((bs (flat row)).toList == (bs nm).toList) = false := by
            rw [bs_toList, bs_toList]
            cases he : (flat row == nm)
            · rfl
            · exact absurd (hfr.1 (by simpa using he)) hrn
          rw [if_neg hrn, List.append_nil] at HP2
          clear hfr HR2 hrn
          go_wp2
          go_roundw
          case rel => exact ⟨i + 1, i + 1, ps, by omega, by go_num, by go_num, HP2.out, HA.out, hbw⟩
          case measure => simp [intOf]; omega

end Go.Proofs.Ytpdghmecodlhhaa.P6
