/-
  Layer 7, walks: the names of a path and the path of names, by the program and by the document.
-/
import Derived.Test.YthecofkkacieaaaDoorP7g
import Derived.Test.YthecofkkacieaaaDoorP7j
namespace Go.Proofs.YthecofkkacieaaaDoor.P7
open Go.RowKit Go.PlainAid M7
open S5 (Env ts)
set_option linter.unusedVariables false

set_option maxRecDepth 100000 in
set_option maxHeartbeats 1000000 in
theorem paths_big (w : World) (he : Env w) (p : List UInt8) (A : Option Addr) (n cap : Nat) (h : 5000 < p.length ∨ 100 < n) :
    Calls Tryd.prog 4 #[.string (bs p), .slice A n cap] w fun e w' => e = .returned (.bool true) ∧ Below w.heap.size w w' := by
  have hsz := bs_size p
  have HE := Lib.hid he
  clear he
  by_cases hp : 5000 < p.length
  · clear h
    go_enter Tryd.func4, Tryd.ntmps4
    go_wp2_with fail
    refine (awake_any _ HE.out).mono ?_
    rintro e w1 ⟨rfl, hb1⟩
    go_wp2
    go_ret
    exact ⟨rfl, hb1⟩
  · have hn : 100 < n := by omega
    clear h
    go_enter Tryd.func4, Tryd.ntmps4
    go_wp2_with fail
    refine (awake_any _ HE.out).mono ?_
    rintro e w1 ⟨rfl, hb1⟩
    go_wp2
    go_ret
    exact ⟨rfl, hb1⟩

theorem splitP_len (p : List UInt8) : (splitP p).1.length ≤ p.length + 1 := by
  by_cases h : (splitP p).2 = 0
  · have h1 := joinR_len (splitP p).1
    rw [splitP_join h] at h1
    have h2 : (splitP p).1.length ≤ (M7.ahead (splitP p).1).length := by
      clear h h1
      generalize (splitP p).1 = a
      induction a with
      | nil => simp
      | cons y r ih => rw [ahead_cons]; simp only [List.length_cons, List.length_append]; omega
    omega
  · rw [splitP_err p h]; simp

set_option maxRecDepth 100000 in
set_option maxHeartbeats 2000000 in
theorem paths_few (w : World) (he : Env w) (p : List UInt8) (hp : p.length ≤ 5000) (A : Option Addr) (n cap : Nat) (L : List (List UInt8)) (hr : Rd w A (ts L)) (hn : L.length = n) (hcap : n ≤ cap) (h100 : n ≤ 100) (hjl : (joinR L).length ≤ 140737488355328) :
    Calls Tryd.prog 4 #[.string (bs p), .slice A n cap] w fun e w' => e = .returned (.bool true) ∧ Below w.heap.size w w' := by
  subst hn
  obtain ⟨a, x, hsp⟩ : ∃ a x, splitP p = (a, x) := ⟨_, _, rfl⟩
  have hal := splitP_len p
  rw [hsp] at hal
  simp only at hal
  have hsz := bs_size p
  have HE := Lib.hid he
  have HR := Lib.hid hr
  have HSP := Lib.hid hsp
  clear he hr hsp
  go_enter Tryd.func4, Tryd.ntmps4
  go_wp2_with fail
  refine (split_any p (by omega) _ HE.out HSP.out).mono ?_
  rintro e w1 ⟨B, c, rfl, hr1, hb1, hc1⟩
  have E1 := Lib.hid (HE.out.keep hb1)
  have L1 := Lib.hid (HR.out.keep hb1)
  have R1 := Lib.hid hr1
  have B1 := Lib.hid hb1
  clear hr1 hb1 hc1 HE HR
  go_wp2_with fail
  refine (refSplit_any p (by omega) _ HSP.out).mono ?_
  rintro e w2 ⟨D, d, rfl, hr2, hb2, hd2⟩
  have E2 := Lib.hid (E1.out.keep hb2)
  have L2 := Lib.hid (L1.out.keep hb2)
  have R2 := Lib.hid (R1.out.keep hb2)
  have Q2 := Lib.hid hr2
  have B2 := Lib.hid (chain B1.out hb2)
  clear hr2 hb2 hd2 E1 L1 R1 B1
  go_wp2_with fail
  refine (awake_any _ E2.out).mono ?_
  rintro e w3 ⟨rfl, hb3⟩
  have L3 := Lib.hid (L2.out.keep hb3)
  have R3 := Lib.hid (R2.out.keep hb3)
  have Q3 := Lib.hid (Q2.out.keep hb3)
  have B3 := Lib.hid (chain B2.out hb3)
  clear hb3 E2 L2 R2 Q2 B2
  go_wp2_with fail
  refine (sameTexts_any _ _ _ _ _ a _ R3.out Q3.out rfl (by omega)).mono ?_
  rintro e w4 ⟨rfl, hb4⟩
  have L4 := Lib.hid (L3.out.keep hb4)
  have B4 := Lib.hid (chain B3.out hb4)
  clear hb4 L3 R3 Q3 B3
  go_wp2_with fail
  refine (join_any L _ L4.out rfl hcap (by omega) hjl).mono ?_
  rintro e w5 ⟨rfl, hb5⟩
  have L5 := Lib.hid (L4.out.keep hb5)
  have B5 := Lib.hid (chain B4.out hb5)
  clear hb5 L4 B4
  go_wp2_with fail
  refine (refJoin_any L _ L5.out rfl (by omega) hjl).mono ?_
  rintro e w6 ⟨rfl, hb6⟩
  have B6 := Lib.hid (chain B5.out hb6)
  clear hb6 L5 B5
  go_wp2
  go_ret
  exact ⟨rfl, B6.out⟩

/-- The bytes of all names together, and one for each. -/
def bulk (ss : List ByteArray) : Nat := (ss.map fun s => s.size + 1).sum
theorem ahead_bulk : ∀ (ss : List ByteArray), (M7.ahead (ss.map fun s => s.data.toList)).length = bulk ss := by
  intro ss
  induction ss with
  | nil => rfl
  | cons s r ih =>
    rw [List.map_cons, ahead_cons]
    simp only [List.length_cons, List.length_append, ih]
    have h : s.data.toList.length = s.size := rfl
    have hb : bulk (s :: r) = s.size + 1 + bulk r := by simp [bulk]
    omega
theorem joinR_bulk (ss : List ByteArray) : (joinR (ss.map fun s => s.data.toList)).length ≤ bulk ss + 1 := by
  have := ahead_bulk ss
  cases h : ss.map fun s => s.data.toList with
  | nil => simp [joinR]
  | cons a r => rw [joinR_cons, ← h, this]; omega

theorem lawPaths (w : World) (he : Env w) (p : ByteArray) (hz : p.size ≤ 140737488351232) (A : Option Addr) (len cap : Nat) (ss : List ByteArray) (hrow : IsStrs w A len cap ss) (hc : cap * 16 ≤ 140737488351232) (hb : bulk (ss.take len) ≤ 1048576) :
    Calls Tryd.prog 4 #[.string p, .slice A len cap] w fun e w' => e = .returned (.bool true) ∧ Below w.heap.size w w' := by
  obtain ⟨l, rfl⟩ : ∃ l, p = bs l := ⟨p.data.toList, (bs_of p).symm⟩
  by_cases hbig : 5000 < l.length ∨ 100 < len
  · exact paths_big w he l A len cap hbig
  · obtain ⟨ls, hls, hr, hn, hzl, hcap⟩ := row_strs hrow
    have hj := joinR_bulk (ss.take len)
    rw [← hls] at hj
    exact paths_few w he l (by omega) A len cap ls hr hn hcap (by omega) (by omega)

end Go.Proofs.YthecofkkacieaaaDoor.P7
