/-
  Layer 6, walks: Replace.
-/
import Derived.Test.YtpdghmecodlhhaaP6g
namespace Go.Proofs.Ytpdghmecodlhhaa.P6
open Go.RowKit Go.PlainAid M6
set_option linter.unusedVariables false

/-- WHAT THE LOOP OF Replace KEEPS. -/
def RepRel (cs bc : List Nat) (ps : List (Nat × Nat)) (w4 : World) (v sd si : Value) (wr : World) : Prop :=
  ∃ (k d : Nat) (X : List Nat), k ≤ ps.length ∧ si = .int .i64 (k : Int) ∧ sd = .int .i64 (d : Int) ∧ X ++ repl cs bc d (ps.drop k) = repl cs bc 0 ps ∧ Chain cs.length d (ps.drop k) ∧
    wr.ownsRow w4.heap.size 21 1 v X.length (rns X) ∧ Below w4.heap.size w4 wr
theorem ints_get {l : List Nat} {k : Nat} (h : k < (ints l).length) : (ints l)[k] = Value.int .i64 ((l[k]'(by simpa [ints] using h) : Nat) : Int) := by simp [ints]
theorem slice_fr {A : Option Addr} {n c i : Nat} (h : i ≤ n) (w : World) :
    (Instr.slice 49 (.slice A n c) (some (.int .i64 (i : Int))) none none).run Try.prog w = .ok (.slice (sub A c i) (n - i) (c - i)) w := by
  have h2 : (i : Int) ≤ (n : Int) := by omega
  have h0 : (0 : Int) ≤ (i : Int) := by omega
  go_simp
  rfl

theorem Rd.cellAt {w : World} {b off : Nat} {xs : List Value} (h : Rd w (some ⟨b, off, none⟩) xs) {k : Nat} (hk : k < xs.length) : w.cell? ⟨b, off + k, none⟩ = some xs[k] := by
  obtain ⟨b', off', e, _, hc⟩ := h.get hk
  cases e
  exact hc

set_option maxRecDepth 100000 in
set_option maxHeartbeats 2000000 in
theorem repl_good {cs : List Nat} (h : Txt cs) (hz : (flat cs).length ≤ 1048576) {nm : List UInt8} (hn : identB nm = true) (hz2 : nm.length ≤ 1048576) {by' : List UInt8} (hb : identB by' = true) (hz3 : by'.length ≤ 1048576) (w : World) :
    Calls Try.prog 23 #[.string (bs (flat cs)), .string (bs nm), .string (bs by')] w fun e w' =>
      e = .returned (.tuple #[.string (bs (flat (swapped (nums nm) (nums by') cs))), .int .i64 ((found (nums nm) cs).length : Int), .int .i64 0]) ∧ Below w.heap.size w w' := by
  obtain ⟨i0, hi0, hz0, hz1, hz4⟩ := info_parts info_rune
  have hT := swapped_ok (nm := nums nm) h (nums_parts (identB_parts hb))
  rw [← found_repl] at hT ⊢
  have hch := found_chain (nums nm) cs
  have hfl : (found (nums nm) cs).length ≤ cs.length := found_le (by have := identB_ne hn; unfold nums; simpa using this) cs
  have hcl : cs.length ≤ 1048576 := Nat.le_trans flat_len_le hz
  have htl := repl_len cs (nums by') (found (nums nm) cs) 0 hch
  have hmul : (nums by').length * (found (nums nm) cs).length ≤ 1048576 * 1048576 := Nat.mul_le_mul (by rw [nums_len]; exact hz3) (by omega)
  have htl2 : (repl cs (nums by') 0 (found (nums nm) cs)).length ≤ 1100000000000 := by omega
  have HF := Lib.hid (find_good h (by omega) hn (by omega))
  have hid := ident_any by' (by omega)
  rw [hb] at hid
  have HI := Lib.hid hid
  have hbf : flat (nums by') = by' := flat_nums (identB_parts hb)
  have HC1 := Lib.hid (runes_of h (by omega))
  have hbt : Txt (nums by') := fun c hc => by have := part_lt (nums_parts (identB_parts hb) c hc); unfold okc; omega
  have hc2 := runes_of hbt (by rw [hbf]; omega)
  rw [hbf] at hc2
  have HC2 := Lib.hid hc2
  have HCH := Lib.hid hch
  have HT := Lib.hid hT
  have hnb : (nums by').length ≤ 1048576 := by rw [nums_len]; exact hz3
  clear h hz hn hz2 hb hid hbf hbt hc2 hch hT htl hmul hz3
  generalize bs (flat cs) = s at *
  generalize bs by' = bb at *
  generalize nums by' = bc at *
  generalize hps : found (nums nm) cs = ps at *
  go_enter Try.func23, Try.ntmps23
  go_wp2_with fail
  refine (HF.out _).mono ?_
  rintro e w1 ⟨A, c, B, d, rfl, hr1, hr2, hb1⟩
  rw [hps] at hr1 hr2 ⊢
  have R1 := Lib.hid hr1
  have R2 := Lib.hid hr2
  clear hr1 hr2 HF hps
  go_wp2_with fail
  refine (HI.out _).mono ?_
  rintro e w2 ⟨rfl, hb2⟩
  obtain ⟨cap1, w3, hrun1, hR3, hcap1, hb3⟩ := HC1.out w2
  obtain ⟨cap2, w4, hrun2, hR4, hcap2, hb4⟩ := HC2.out w3
  have hrr1 := ((R1.out.keep hb2).keep hb3).keep hb4
  have hrr2 := ((R2.out.keep hb2).keep hb3).keep hb4
  have hrr3 := hR3.keep hb4
  have hbb := chain (chain (chain hb1 hb2) hb3) hb4
  have Q1 := Lib.hid hrr1
  have Q2 := Lib.hid hrr2
  have Q3 := Lib.hid hrr3
  have Q4 := Lib.hid hR4
  clear hrr1 hrr2 hrr3 hR3 hR4 hb1 hb2 hb3 hb4 R1 R2 HI HC1 HC2
  have h0 : RepRel cs bc ps w4 (.slice none 0 0) (.int .i64 0) (.int .i64 0) w4 := ⟨0, 0, [], by omega, rfl, rfl, rfl, HCH.out, World.ownsRow_nil _ _ _ _, Below.refl _ _⟩
  have H0 := Lib.hid h0
  clear h0
  generalize w2.heap.size = g2 at hrun1 Q3
  generalize w3.heap.size = g3 at hrun2 Q4
  go_wp2
  go_loopw [13, 14, 36] (fun v sd si wr => RepRel cs bc ps w4 v sd si wr) (fun _ _ si _ => ps.length - (intOf si).toNat)
  case atStart => exact H0.out
  case round =>
    clear H0 hrun1 hrun2
    obtain ⟨k, dn, X, hk, rfl, rfl, hX, hch, ho, hbw⟩ := hrel
    have HX := Lib.hid hX
    have HC := Lib.hid hch
    have HO := Lib.hid ho
    have hBw : w4.heap.size ≤ wr.heap.size := hbw.size
    have hdn := hch.le
    have hXl : X.length ≤ 1100000000000 := by have := congrArg List.length hX; rw [List.length_append] at this; omega
    clear hX hch ho
    by_cases hlt : k < ps.length
    · have hcons : ps.drop k = ps[k] :: ps.drop (k + 1) := List.drop_eq_getElem_cons hlt
      obtain ⟨h1, h2, h3⟩ : dn ≤ ps[k].1 ∧ ps[k].1 ≤ ps[k].2 ∧ Chain cs.length ps[k].2 (ps.drop (k + 1)) := by have := HC.out; rw [hcons] at this; exact this
      have h4 := h3.le
      have hre : X ++ (cs.drop dn).take (ps[k].1 - dn) ++ bc ++ repl cs bc ps[k].2 (ps.drop (k + 1)) = repl cs bc 0 ps := by
        rw [← HX.out, hcons]; simp [repl]
      obtain ⟨b1, off1, rfl, hbl1, hc1⟩ := (Q1.out.keep hbw).get (k := k) (by simpa [ints] using hlt)
      obtain ⟨b2, off2, rfl, hbl2, hc2⟩ := (Q2.out.keep hbw).get (k := k) (by simpa [ints] using hlt)
      rw [ints_get, List.getElem_map] at hc1
      have hcf : ∀ W, Below w4.heap.size w4 W → W.cell? ⟨b2, off2 + k, none⟩ = some (.int .i64 (ps[k].2 : Int)) := fun W hW => by
        have := Rd.cellAt (Q2.out.keep hW) (k := k) (by simpa [ints] using hlt)
        rw [ints_get, List.getElem_map] at this
        exact this
      have HCF := Lib.hid hcf
      clear hcf hc2
      have H3 := Lib.hid h3
      have HRE := Lib.hid hre
      have hlt2 : b2 < w4.heap.size ∨ w4.heap.size ≤ b2 := by omega
      clear hcons h3 hre
      generalize ps[k].1 = pb at *
      generalize ps[k].2 = pe at *
      have hsub := Rd.sub (Q3.out.keep hbw) (f := dn) (t := pb) (by rw [rns_len]; exact hcap1) h1 (by rw [rns_len]; omega)
      rw [show ((rns cs).drop dn).take (pb - dn) = rns ((cs.drop dn).take (pb - dn)) by simp [rns, List.map_take, List.map_drop]] at hsub
      have hsl := slice_lt (A := some ⟨g2, 0, none⟩) (n := cs.length) (c := cap1) h1 (by omega) wr
      obtain ⟨ad, had⟩ := sub_some ⟨g2, 0, none⟩ cap1 dn
      rw [had] at hsub hsl
      have hseg : (rns ((cs.drop dn).take (pb - dn))).length = (pb - dn) * 1 := by rw [rns_len, List.length_take, List.length_drop]; omega
      have hcells := rd_cells hsub
      have HSG := Lib.hid hcells
      clear hcells hsub had
      generalize hsgn : (cs.drop dn).take (pb - dn) = seg at *
      have hq4 := Q4.out
      have hq2 := Q2.out
      have HSGN := Lib.hid hsgn
      clear hsgn
      go_wp2_with (first
        | (at_builtin; refine wpList_append_own _ rfl (.tmp 41) (.tmp 45) 49 rfl w4.heap.size 21 i0 (.int .i32 0) 1 4 Try.underlying49 hi0 hz0 hz1 hz4 rfl (by decide) _ _ _ rfl HO.out ad (pb - dn) (cap1 - dn) (rns seg) rfl hseg HSG.out (rns_one _) (by unfold maxLen; omega) (by omega) (by omega) ?_; intro v1 w5 hown1 hg1 _; have hb5 := hbw.grown hg1 hBw (fun q hq => (HO.out.lt q hq).1); have hrd5 := rd_cells (hq4.keep hb5))
        | (at_builtin; refine wpList_append_own _ rfl (.tmp 46) (.tmp 47) 49 rfl w4.heap.size 21 i0 (.int .i32 0) 1 4 Try.underlying49 hi0 hz0 hz1 hz4 rfl (by decide) _ _ _ rfl hown1 ⟨g3, 0, none⟩ bc.length cap2 (rns bc) rfl (by rw [rns_len]; omega) hrd5 (rns_one _) (by unfold maxLen; omega) (by omega) (by have := hb5.size; omega) ?_; intro v2 w6 hown2 hg2 _; have hb6 := hb5.grown hg2 hb5.size (fun q hq => (hown1.lt q hq).1); have hc6 := HCF.out w6 hb6))
      go_wp2
      go_roundw
      case rel =>
        refine ⟨k + 1, pe, X ++ seg ++ bc, by omega, by go_num, rfl, HRE.out, H3.out, ?_, hb6⟩
        rw [rns_append, rns_append, List.length_append, List.length_append]
        have e1 : seg.length = pb - dn := by have := hseg; rw [rns_len] at this; omega
        rw [e1]
        exact hown2
      case measure => simp [intOf]; omega
    · obtain rfl : k = ps.length := by omega
      have hdr : ps.drop ps.length = [] := List.drop_length
      have hre : X ++ cs.drop dn = repl cs bc 0 ps := by have := HX.out; rw [hdr] at this; exact this
      have HRE := Lib.hid hre
      have hsub := Rd.sub (Q3.out.keep hbw) (f := dn) (t := cs.length) (by rw [rns_len]; exact hcap1) hdn (by rw [rns_len]; exact Nat.le_refl _)
      rw [show ((rns cs).drop dn).take (cs.length - dn) = rns (cs.drop dn) by rw [List.take_of_length_le (by simp [rns_len])]; simp [rns, List.map_drop]] at hsub
      have hsl := slice_fr (A := some ⟨g2, 0, none⟩) (n := cs.length) (c := cap1) hdn wr
      obtain ⟨ad, had⟩ := sub_some ⟨g2, 0, none⟩ cap1 dn
      rw [had] at hsub hsl
      have hseg : (rns (cs.drop dn)).length = (cs.length - dn) * 1 := by rw [rns_len, List.length_drop]; omega
      have hcells := rd_cells hsub
      have HSG := Lib.hid hcells
      clear hcells hsub had hdr hre
      generalize hsgn : cs.drop dn = seg at *
      clear hsgn
      go_wp2_with (at_builtin; refine wpList_append_own _ rfl (.tmp 54) (.tmp 57) 49 rfl w4.heap.size 21 i0 (.int .i32 0) 1 4 Try.underlying49 hi0 hz0 hz1 hz4 rfl (by decide) _ _ _ rfl HO.out ad (cs.length - dn) (cap1 - dn) (rns seg) rfl hseg HSG.out (rns_one _) (by unfold maxLen; omega) (by omega) (by omega) ?_; intro v1 w5 hown1 hg1 _; have hb5 := hbw.grown hg1 hBw (fun q hq => (HO.out.lt q hq).1); rw [← rns_append, HRE.out] at hown1; obtain ⟨A5, c5, rfl, hr5, _⟩ := Rd.of_own3 hown1; have hcv := rd_string (c := c5) hr5 (n := X.length + (cs.length - dn)) (by rw [← HRE.out, List.length_append]; rw [rns_len] at hseg; omega) HT.out)
      go_wp2
      go_ret3
      exact ⟨rfl, chain hbb hb5⟩

end Go.Proofs.Ytpdghmecodlhhaa.P6
