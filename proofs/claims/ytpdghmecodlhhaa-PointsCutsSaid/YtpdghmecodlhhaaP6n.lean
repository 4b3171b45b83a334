/-
  Layer 6, walks: the document's Replace.
-/
import Derived.Test.YtpdghmecodlhhaaP6m
namespace Go.Proofs.Ytpdghmecodlhhaa.P6
open Go.RowKit Go.PlainAid M6
set_option linter.unusedVariables false

set_option maxRecDepth 100000 in
set_option maxHeartbeats 400000 in
theorem refRepl_bad {l : List UInt8} (h : Bad l) (hz : l.length ≤ 1099511627776) (n b : ByteArray) (w : World) :
    Calls Try.prog 24 #[.string (bs l), .string n, .string b] w fun e w' => e = .returned (.tuple #[.string ⟨#[]⟩, .int .i64 0, .int .i64 60]) ∧ Below w.heap.size w w' := by
  have HR := Lib.hid (refFind_bad h hz)
  clear h hz
  generalize bs l = s at *
  go_enter Try.func24, Try.ntmps24
  go_wp2_with fail
  refine (HR.out _ _).mono ?_
  rintro e w1 ⟨rfl, hb⟩
  go_wp2
  go_ret3
  exact ⟨rfl, hb⟩

set_option maxRecDepth 100000 in
set_option maxHeartbeats 400000 in
theorem refRepl_noid {cs : List Nat} (h : Txt cs) (hz : (flat cs).length ≤ 1099511627776) {nm : List UInt8} (hn : identB nm = false) (hz2 : nm.length ≤ 1099511627776) (b : ByteArray) (w : World) :
    Calls Try.prog 24 #[.string (bs (flat cs)), .string (bs nm), .string b] w fun e w' => e = .returned (.tuple #[.string ⟨#[]⟩, .int .i64 0, .int .i64 61]) ∧ Below w.heap.size w w' := by
  have HR := Lib.hid (refFind_noid h hz hn hz2)
  clear h hz hn hz2
  generalize bs (flat cs) = s at *
  go_enter Try.func24, Try.ntmps24
  go_wp2_with fail
  refine (HR.out _).mono ?_
  rintro e w1 ⟨rfl, hb⟩
  go_wp2
  go_ret3
  exact ⟨rfl, hb⟩

set_option maxRecDepth 100000 in
set_option maxHeartbeats 400000 in
theorem refRepl_noby {cs : List Nat} (h : Txt cs) (hz : (flat cs).length ≤ 1099511627776) {nm : List UInt8} (hn : identB nm = true) (hz2 : nm.length ≤ 1099511627776) {by' : List UInt8} (hb : identB by' = false) (hz3 : by'.length ≤ 1099511627776) (w : World) :
    Calls Try.prog 24 #[.string (bs (flat cs)), .string (bs nm), .string (bs by')] w fun e w' => e = .returned (.tuple #[.string ⟨#[]⟩, .int .i64 0, .int .i64 61]) ∧ Below w.heap.size w w' := by
  have HR := Lib.hid (refFind_good h hz hn hz2)
  have hid := refIdent_any by' hz3
  rw [hb] at hid
  have HI := Lib.hid hid
  clear h hz hn hz2 hid hb
  generalize bs (flat cs) = s at *
  go_enter Try.func24, Try.ntmps24
  go_wp2_with fail
  refine (HR.out _).mono ?_
  rintro e w1 ⟨A, c, rfl, hr1, hb⟩
  clear hr1 HR
  go_wp2_with fail
  refine (HI.out _).mono ?_
  rintro e w2 ⟨rfl, rfl⟩
  go_wp2
  go_ret3
  exact ⟨rfl, hb⟩

/-- WHAT THE LOOP OF THE DOCUMENT's Replace KEEPS. -/
def RrpRel (cs bc : List Nat) (ps : List (Nat × Nat)) (st sd si : Value) : Prop :=
  ∃ (k d : Nat) (X : List Nat), k ≤ ps.length ∧ si = .int .i64 (k : Int) ∧ sd = .int .i64 (d : Int) ∧ st = .string (bs (flat X)) ∧ X ++ repl cs bc d (ps.drop k) = repl cs bc 0 ps ∧ Chain cs.length d (ps.drop k)
theorem rd_span {w : World} {b off : Nat} {ps : List (Nat × Nat)} (h : Rd w (some ⟨b, off, none⟩) (spc ps)) {k : Nat} (hk : k < ps.length) :
    w.cell? ⟨b, off + k * 2, none⟩ = some (.int .i64 (ps[k].1 : Int)) ∧ w.cell? ⟨b, off + k * 2 + 1, none⟩ = some (.int .i64 (ps[k].2 : Int)) := by
  obtain ⟨h1, h2⟩ := spc_get hk
  obtain ⟨l1, e1⟩ := List.getElem?_eq_some_iff.1 h1
  obtain ⟨l2, e2⟩ := List.getElem?_eq_some_iff.1 h2
  refine ⟨?_, ?_⟩
  · rw [← e1]; exact Rd.cellAt h l1
  · rw [← e2, show off + k * 2 + 1 = off + (k * 2 + 1) by omega]; exact Rd.cellAt h l2

set_option maxRecDepth 100000 in
set_option maxHeartbeats 2000000 in
theorem refRepl_good {cs : List Nat} (h : Txt cs) (hz : (flat cs).length ≤ 1048576) {nm : List UInt8} (hn : identB nm = true) (hz2 : nm.length ≤ 1048576) {by' : List UInt8} (hb : identB by' = true) (hz3 : by'.length ≤ 1048576) (w : World) :
    Calls Try.prog 24 #[.string (bs (flat cs)), .string (bs nm), .string (bs by')] w fun e w' =>
      e = .returned (.tuple #[.string (bs (flat (swapped (nums nm) (nums by') cs))), .int .i64 ((found (nums nm) cs).length : Int), .int .i64 0]) ∧ Below w.heap.size w w' := by
  rw [← found_repl]
  have hch := found_chain (nums nm) cs
  have hfl : (found (nums nm) cs).length ≤ cs.length := found_le (by have := identB_ne hn; unfold nums; simpa using this) cs
  have hcl : cs.length ≤ 1048576 := Nat.le_trans flat_len_le hz
  have htl := repl_len cs (nums by') (found (nums nm) cs) 0 hch
  have hmul : (nums by').length * (found (nums nm) cs).length ≤ 1048576 * 1048576 := Nat.mul_le_mul (by rw [nums_len]; exact hz3) (by omega)
  have htl2 : (repl cs (nums by') 0 (found (nums nm) cs)).length ≤ 1100000000000 := by omega
  have HF := Lib.hid (refFind_good h (by omega) hn (by omega))
  have hid := refIdent_any by' (by omega)
  rw [hb] at hid
  have HI := Lib.hid hid
  have HSP := Lib.hid (refSplit_good h (by omega))
  have hbf : flat (nums by') = by' := flat_nums (identB_parts hb)
  have HBF := Lib.hid hbf
  have HCH := Lib.hid hch
  have hbz : (bs by').size ≤ 1048576 := by rw [bs_size]; exact hz3
  have HZ := Lib.hid hz
  clear h hz hn hz2 hb hid hbf hch htl hmul hz3
  generalize bs (flat cs) = s at *
  generalize hbb0 : bs by' = bb at *
  rw [← HBF.out] at hbb0
  have HBB := Lib.hid hbb0
  clear hbb0 HBF
  generalize nums by' = bc at *
  generalize hps : found (nums nm) cs = ps at *
  go_enter Try.func24, Try.ntmps24
  go_wp2_with fail
  refine (HF.out _).mono ?_
  rintro e w1 ⟨A, c, rfl, hr1, hb1⟩
  rw [hps] at hr1 ⊢
  have R1 := Lib.hid hr1
  clear hr1 HF hps
  go_wp2_with fail
  refine (HI.out _).mono ?_
  rintro e w2 ⟨rfl, rfl⟩
  go_wp2_with fail
  refine (HSP.out _).mono ?_
  rintro e w3 ⟨B, d, rfl, hr3, hcap, hb3⟩
  have hrr1 := R1.out.keep hb3
  have hbb := chain hb1 hb3
  have Q1 := Lib.hid hrr1
  have Q3 := Lib.hid hr3
  clear hrr1 hr3 hb1 hb3 R1 HI HSP
  have h0 : RrpRel cs bc ps (.string ⟨#[]⟩) (.int .i64 0) (.int .i64 0) := ⟨0, 0, [], by omega, rfl, rfl, rfl, rfl, HCH.out⟩
  have H0 := Lib.hid h0
  clear h0
  go_wp2
  go_loop [13, 14, 15] (fun st sd si => RrpRel cs bc ps st sd si) (fun _ _ si => ps.length - (intOf si).toNat)
  case atStart => exact H0.out
  case round =>
    clear H0
    obtain ⟨k, dn, X, hk, rfl, rfl, rfl, hX, hch⟩ := hrel
    have HX := Lib.hid hX
    have HC := Lib.hid hch
    have hdn := hch.le
    have hXl : X.length ≤ 1100000000000 := by have := congrArg List.length hX; rw [List.length_append] at this; omega
    have hXz : (bs (flat X)).size ≤ 4400000000000 := by rw [bs_size]; have := flat_len_ge (cs := X); omega
    clear hX hch
    by_cases hlt : k < ps.length
    · have hcons : ps.drop k = ps[k] :: ps.drop (k + 1) := List.drop_eq_getElem_cons hlt
      obtain ⟨h1, h2, h3⟩ : dn ≤ ps[k].1 ∧ ps[k].1 ≤ ps[k].2 ∧ Chain cs.length ps[k].2 (ps.drop (k + 1)) := by have := HC.out; rw [hcons] at this; exact this
      have h4 := h3.le
      have hre : X ++ (cs.drop dn).take (ps[k].1 - dn) ++ bc ++ repl cs bc ps[k].2 (ps.drop (k + 1)) = repl cs bc 0 ps := by
        rw [← HX.out, hcons]; simp [repl]
      obtain ⟨b1, off1, rfl, hbl1, hcx⟩ := Q1.out.get (k := k * 2) (by rw [spc_len]; omega)
      clear hcx
      obtain ⟨hc1, hc2⟩ := rd_span Q1.out hlt
      have H3 := Lib.hid h3
      have HRE := Lib.hid hre
      clear hcons h3 hre
      generalize ps[k].1 = pb at *
      generalize ps[k].2 = pe at *
      have hsub := pcs_sub Q3.out hcap (f := dn) (t := pb) h1 (by omega)
      have hsl := sslice_lt (A := B) (n := cs.length) (c := d) h1 (by omega) w3
      have hfle := flat_sub_le (cs := cs) dn (pb - dn)
      have hflz := HZ.out
      have hjo := join_any (n := pb - dn) (c := d - dn) hsub (by simp; omega) (by omega)
      have hsz0 : (bs (flat ((cs.drop dn).take (pb - dn)))).size ≤ 1048576 := by rw [bs_size]; omega
      have hsz1 : ¬ 9223372036854775807 < (bs (flat X)).size + (bs (flat ((cs.drop dn).take (pb - dn)))).size := by omega
      have hsz2 : ¬ 9223372036854775807 < (bs (flat X)).size + (bs (flat ((cs.drop dn).take (pb - dn)))).size + bb.size := by omega
      have HJO := Lib.hid hjo
      clear hsub hjo hfle hflz
      generalize sub B d dn = sa at *
      generalize (cs.drop dn).take (pb - dn) = seg at *
      go_wp2_with fail
      refine HJO.out.mono ?_
      rintro e w4 ⟨rfl, rfl⟩
      go_wp2
      go_round
      case rel =>
        refine ⟨k + 1, pe, X ++ seg ++ bc, by omega, by go_num, rfl, ?_, HRE.out, H3.out⟩
        rw [flat_append, flat_append, ← bs_join, ← bs_join, HBB.out]
      case measure => simp [intOf]; omega
    · obtain rfl : k = ps.length := by omega
      have hdr : ps.drop ps.length = [] := List.drop_length
      have hre : X ++ cs.drop dn = repl cs bc 0 ps := by have := HX.out; rw [hdr] at this; exact this
      have HRE := Lib.hid hre
      have hsub := pcs_sub Q3.out hcap (f := dn) (t := cs.length) hdn (Nat.le_refl _)
      rw [show (cs.drop dn).take (cs.length - dn) = cs.drop dn by rw [List.take_of_length_le (by simp)]] at hsub
      have hsl := sslice_fr (A := B) (n := cs.length) (c := d) hdn w3
      have hfle := flat_sub_le (cs := cs) dn (cs.drop dn).length
      rw [List.take_length] at hfle
      have hflz := HZ.out
      have hjo := join_any (n := cs.length - dn) (c := d - dn) hsub (by simp) (by omega)
      have hsz0 : (bs (flat (cs.drop dn))).size ≤ 1048576 := by rw [bs_size]; omega
      have hsz1 : ¬ 9223372036854775807 < (bs (flat X)).size + (bs (flat (cs.drop dn))).size := by omega
      have HJO := Lib.hid hjo
      clear hsub hjo hfle hflz hdr hre
      generalize sub B d dn = sa at *
      generalize cs.drop dn = seg at *
      go_wp2_with fail
      refine HJO.out.mono ?_
      rintro e w4 ⟨rfl, rfl⟩
      go_wp2
      go_ret3
      refine ⟨?_, hbb⟩
      rw [← HRE.out, flat_append, ← bs_join]
      rfl

end Go.Proofs.Ytpdghmecodlhhaa.P6
