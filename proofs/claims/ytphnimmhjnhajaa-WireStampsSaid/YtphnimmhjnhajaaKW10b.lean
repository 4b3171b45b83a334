/-
  Layer 8, walks of the program: stamps and ids put behind a parcel's bytes, and as many as there are.
-/
import Derived.Test.YtphnimmhjnhajaaKW10a
namespace Go.Proofs.Ytphnimmhjnhajaa.W8
open Go.RowKit Go.PlainAid M8 V1
set_option linter.unusedVariables false

def stampP (s : Int × Int) : List UInt8 := numB s.1 ++ numB s.2
def idP (x : Id3) : List UInt8 := stampP (x.1, x.2.1) ++ numB x.2.2
def flagP (b : Bool) : List UInt8 := numB (if b = true then 1 else 0)
theorem stampP_len {s : Int × Int} (h : stampR s) : (stampP s).length ≤ 18 := by
  unfold stampP
  have h1 := numB_len h.1.2
  have h2 := numB_len h.2.2
  rw [List.length_append]
  omega
theorem idP_len {x : Id3} (h : idR x) : (idP x).length ≤ 27 := by
  unfold idP
  have h1 := stampP_len (s := (x.1, x.2.1)) ⟨h.1, h.2.1⟩
  have h2 := numB_len h.2.2.2
  rw [List.length_append]
  omega
theorem Stp.alloc {b : Nat} {w w1 : World} (h : Stp b w w1) (o : Obj) (hb : b < w1.heap.size) : Stp b w (w1.alloc o) := h.trans (Stp.of (below_box o) hb)
theorem Stp.drew {b : Nat} {w w1 : World} (h : Stp b w w1) (hb : b < w1.heap.size) : Stp b w w1.drew := h.trans (Stp.of (bdrew w1) hb)
theorem Stp.two {b : Nat} {w w' : World} (h : Stp b w w') {T : TypeId} {l : List UInt8} (hp : Par w b T l) {c t : Nat} {x y : Int} (hc : Two w c t x y) (ht : t ≠ 5) (hcb : c ≠ b) : Two w' c t x y := h.box hp hc ht hcb
theorem Stp.tri {b : Nat} {w w' : World} (h : Stp b w w') {T : TypeId} {l : List UInt8} (hp : Par w b T l) {c t : Nat} {x y z : Int} (hc : Tri w c t x y z) (ht : t ≠ 5) (hcb : c ≠ b) : Tri w' c t x y z := h.box hp hc ht hcb
theorem st_ne : 23 ≠ 5 := by decide
theorem id_ne : 40 ≠ 5 := by decide

set_option maxRecDepth 100000 in
set_option maxHeartbeats 1000000 in
theorem pflag_any (v : Bool) (w : World) (b : Nat) (T : TypeId) (l : List UInt8) (hp : Par w b T l) (hl : l.length ≤ 900000000000) : Calls Try.prog 40 #[.pointer (some ⟨b, 0, none⟩), .bool v] w fun e w' => e = .returned (.tuple #[]) ∧ Par w' b T (l ++ flagP v) ∧ Stp b w w' := by
  have HP := Lib.hid hp
  have HL : Hid (l.length ≤ 1000000000000) := by show _ ≤ _; omega
  clear hp
  unfold flagP
  cases v
  · go_enter Try.func40, Try.ntmps40
    go_wp2_with fail
    refine (pnat_any 0 (by omega) _ b T l HP.out HL.out).mono ?_
    rintro e w1 ⟨rfl, hp1, hs1⟩
    have HP1 := Lib.hid hp1
    have HS1 := Lib.hid hs1
    clear hp1 hs1
    go_wp2
    refine bodyPost_end (results_none rfl _ _ _) rfl ?_
    exact ⟨rfl, HP1.out, HS1.out⟩
  · go_enter Try.func40, Try.ntmps40
    go_wp2_with fail
    refine (pnat_any 1 (by omega) _ b T l HP.out HL.out).mono ?_
    rintro e w1 ⟨rfl, hp1, hs1⟩
    have HP1 := Lib.hid hp1
    have HS1 := Lib.hid hs1
    clear hp1 hs1
    go_wp2
    refine bodyPost_end (results_none rfl _ _ _) rfl ?_
    exact ⟨rfl, HP1.out, HS1.out⟩

set_option maxRecDepth 100000 in
set_option maxHeartbeats 2000000 in
theorem pstamp_any (s : Int × Int) (hs : stampR s) (w : World) (b : Nat) (T : TypeId) (l : List UInt8) (hp : Par w b T l) (hl : l.length ≤ 900000000000) : Calls Try.prog 20 #[.pointer (some ⟨b, 0, none⟩), .agg #[.int .i64 s.1, .int .i64 s.2]] w fun e w' => e = .returned (.tuple #[]) ∧ Par w' b T (l ++ stampP s) ∧ Stp b w w' := by
  have hbl := hp.lt
  have HP := Lib.hid ((hp.keep (below_box (.cells #[.int .i64 s.1, .int .i64 s.2] 23))).keep (bdrew _))
  have HS0 := Lib.hid (((Stp.refl b w).alloc (.cells #[.int .i64 s.1, .int .i64 s.2] 23) hbl).drew (by simp; omega))
  have hT := Two.new w 23 s.1 s.2
  have HT := Lib.hid (hT.keep (bdrew _))
  have HL : Hid (l.length ≤ 900000000000) := hl
  have HR := Lib.hid hs
  obtain ⟨c0, c1⟩ := hT.cells
  clear hp hl hs hT
  go_enter Try.func20, Try.ntmps20
  go_wp2
  refine S5.still_tail 5 S5.mixed (by kernel_rfl) ?_
  simp only [List.take_succ_cons, List.take_zero, List.drop_succ_cons, List.drop_zero]
  repeat still_step
  refine wpStill_nil ?_
  go_wp2_with fail
  refine (pnat_any s.1 HR.out.1.2 _ b T l HP.out (by have := HL.out; omega)).mono ?_
  rintro e w1 ⟨rfl, hp1, hs1⟩
  have ht1 := hs1.two HP.out HT.out st_ne (by omega)
  have hlt1 := hp1.lt
  have HP1 := Lib.hid (hp1.keep (bdrew w1))
  have HS1 := Lib.hid ((HS0.out.trans hs1).drew hlt1)
  clear c0 c1 hp1 hs1 hlt1
  obtain ⟨d0, d1⟩ := ht1.cells
  clear ht1
  go_wp2
  refine S5.still_tail 5 S5.mixed (by kernel_rfl) ?_
  simp only [List.take_succ_cons, List.take_zero, List.drop_succ_cons, List.drop_zero]
  repeat still_step
  refine wpStill_nil ?_
  go_wp2_with fail
  refine (pnat_any s.2 HR.out.2.2 _ b T (l ++ numB s.1) HP1.out (by have := HL.out; have := numB_len HR.out.1.2; rw [List.length_append]; omega)).mono ?_
  rintro e w2 ⟨rfl, hp2, hs2⟩
  have HP2 : Hid (Par w2 b T (l ++ stampP s)) := by
    show Par _ _ _ _
    unfold stampP
    rw [← List.append_assoc]
    exact hp2
  have HS2 := Lib.hid (HS1.out.trans hs2)
  clear d0 d1 hp2 hs2
  go_wp2
  refine bodyPost_end (results_none rfl _ _ _) rfl ?_
  exact ⟨rfl, HP2.out, HS2.out⟩

set_option maxRecDepth 100000 in
set_option maxHeartbeats 2000000 in
theorem pid_any (x : Id3) (hx : idR x) (w : World) (b : Nat) (T : TypeId) (l : List UInt8) (hp : Par w b T l) (hl : l.length ≤ 800000000000) : Calls Try.prog 39 #[.pointer (some ⟨b, 0, none⟩), .agg #[.int .i64 x.1, .int .i64 x.2.1, .int .i64 x.2.2]] w fun e w' => e = .returned (.tuple #[]) ∧ Par w' b T (l ++ idP x) ∧ Stp b w w' := by
  have hbl := hp.lt
  have HP := Lib.hid (hp.keep (below_box (.cells #[.int .i64 x.1, .int .i64 x.2.1, .int .i64 x.2.2] 40)))
  have HS0 := Lib.hid ((Stp.refl b w).alloc (.cells #[.int .i64 x.1, .int .i64 x.2.1, .int .i64 x.2.2] 40) hbl)
  have hT := Tri.new w 40 x.1 x.2.1 x.2.2
  have HT := Lib.hid hT
  have HL : Hid (l.length ≤ 800000000000) := hl
  have HR := Lib.hid hx
  obtain ⟨c0, c1, c2⟩ := hT.cells
  clear hp hl hx hT
  go_enter Try.func39, Try.ntmps39
  go_wp2_with fail
  refine (pstamp_any (x.1, x.2.1) ⟨HR.out.1, HR.out.2.1⟩ _ b T l HP.out (by have := HL.out; omega)).mono ?_
  rintro e w1 ⟨rfl, hp1, hs1⟩
  have ht1 := hs1.tri HP.out HT.out id_ne (by omega)
  have hlt1 := hp1.lt
  have HP1 := Lib.hid (hp1.keep (bdrew w1))
  have HS1 := Lib.hid ((HS0.out.trans hs1).drew hlt1)
  clear c0 c1 c2 hp1 hs1 hlt1
  obtain ⟨d0, d1, d2⟩ := ht1.cells
  clear ht1
  go_wp2
  refine S5.still_tail 5 S5.mixed (by kernel_rfl) ?_
  simp only [List.take_succ_cons, List.take_zero, List.drop_succ_cons, List.drop_zero]
  repeat still_step
  refine wpStill_nil ?_
  go_wp2_with fail
  refine (pnat_any x.2.2 HR.out.2.2.2 _ b T (l ++ stampP (x.1, x.2.1)) HP1.out (by have := HL.out; have := stampP_len (s := (x.1, x.2.1)) ⟨HR.out.1, HR.out.2.1⟩; rw [List.length_append]; omega)).mono ?_
  rintro e w2 ⟨rfl, hp2, hs2⟩
  have HP2 : Hid (Par w2 b T (l ++ idP x)) := by
    show Par _ _ _ _
    unfold idP
    rw [← List.append_assoc]
    exact hp2
  have HS2 := Lib.hid (HS1.out.trans hs2)
  clear d0 d1 d2 hp2 hs2
  go_wp2
  refine bodyPost_end (results_none rfl _ _ _) rfl ?_
  exact ⟨rfl, HP2.out, HS2.out⟩

set_option maxRecDepth 100000 in
set_option maxHeartbeats 4000000 in
theorem pstamps_any (xs : List (Int × Int)) (hx : ∀ x ∈ xs, stampR x) (hn : xs.length ≤ 1000000) (A : Option Addr) (cp : Nat) (W0 : World) (hr : Rd W0 A (xs.flatMap stampC)) (w : World) (b : Nat) (hW : W0.heap.size ≤ b) (hbw : Below b W0 w) (T : TypeId) (l : List UInt8) (hp : Par w b T l) (hl : l.length ≤ 700000000000) :
    Calls Try.prog 42 #[.pointer (some ⟨b, 0, none⟩), .slice A xs.length cp, .func (.func 20) #[.pointer (some ⟨b, 0, none⟩)] #[]] w fun e w' => e = .returned (.tuple #[]) ∧ Par w' b T (l ++ (numB (xs.length : Int) ++ xs.flatMap stampP)) ∧ Stp b w w' := by
  have HP := Lib.hid hp
  have HL := Lib.hid hl
  have HX := Lib.hid hx
  have HR := Lib.hid hr
  have HBW := Lib.hid hbw
  have hlen : ∀ k, k ≤ xs.length → ((xs.take k).flatMap stampP).length ≤ 18 * k := by
    intro k
    induction k with
    | zero => intro _; simp
    | succ k ih =>
      intro hk
      have h1 := ih (by omega)
      have h2 := stampP_len (HX.out _ (List.getElem_mem (show k < xs.length by omega)))
      rw [List.take_succ_eq_append_getElem (by omega), List.flatMap_append, List.length_append]
      simp only [List.flatMap_cons, List.flatMap_nil, List.append_nil]
      omega
  have HLEN := Lib.hid hlen
  clear hp hl hx hr hbw hlen
  have hk1 : (xs.length : Int) ≤ 9223372036854775807 := by omega
  go_enter Try.func42, Try.ntmps42
  go_wp2_with fail
  refine (pnat_any (xs.length : Int) hk1 _ b T l HP.out (by have := HL.out; omega)).mono ?_
  rintro e w1 ⟨rfl, hp1, hs1⟩
  have HP1 := Lib.hid hp1
  have HS1 := Lib.hid hs1
  have R0 : Hid (Par w1 b T (l ++ numB (xs.length : Int) ++ (xs.take 0).flatMap stampP) ∧ Stp b w w1) := by
    refine ⟨?_, hs1⟩
    simpa using hp1
  clear hp1 hs1 hk1
  go_wp2
  go_loopw [16] (fun v wr => ∃ k : Nat, k ≤ xs.length ∧ v = .int .i64 (k : Int) ∧ Par wr b T (l ++ numB (xs.length : Int) ++ (xs.take k).flatMap stampP) ∧ Stp b w wr) (fun v _ => xs.length - (intOf v).toNat)
  case atStart => exact ⟨0, by omega, rfl, R0.out.1, R0.out.2⟩
  case round =>
    obtain ⟨k, hk, rfl, hpk, hsk⟩ := hrel
    by_cases hlt : k < xs.length
    · have hbk := HBW.out.trans hsk.below
      obtain ⟨q, off, rfl, hq, hcl⟩ := rd_cells (HR.out.below hbk hW) (c := 2) (fun _ _ => rfl) (by omega) hlt
      obtain ⟨x, hx⟩ : ∃ x, xs[k] = x := ⟨_, rfl⟩
      have hxr := Lib.hid (HX.out _ (List.getElem_mem hlt))
      have HXE := Lib.hid hx
      rw [hx] at hcl hxr
      have x0 : wr.cell? ⟨q, off + k * 2, none⟩ = some (.int .i64 x.1) := hcl 0 (by omega)
      have x1 : wr.cell? ⟨q, off + k * 2 + 1, none⟩ = some (.int .i64 x.2) := hcl 1 (by omega)
      have hk0 : (0 : Int) ≤ (k : Int) := by omega
      have hk1 : (k : Int) < (xs.length : Int) := by omega
      have hT := Two.new wr 23 x.1 x.2
      have hpl := hpk.lt
      have HPK := Lib.hid (hpk.keep (below_box (.cells #[.int .i64 x.1, .int .i64 x.2] 23)))
      have HSK := Lib.hid (hsk.alloc (.cells #[.int .i64 x.1, .int .i64 x.2] 23) hpl)
      have hll : Hid ((l ++ numB (xs.length : Int) ++ (xs.take k).flatMap stampP).length ≤ 700000000000 + 1000000000) := by
        show _ ≤ _
        have h1 := HL.out
        have h2 := HLEN.out k hk
        have h3 := numB_len (n := (xs.length : Int)) (by omega)
        simp only [List.length_append]
        omega
      obtain ⟨e0, e1⟩ := hT.cells
      clear hx hcl hT hpk hsk hbk R0 HP1 HS1 HP
      go_wp2_with fail
      refine (pstamp_any x hxr.out _ b T _ HPK.out (by have := hll.out; omega)).mono ?_
      rintro e w2 ⟨rfl, hp2, hs2⟩
      have HP2 : Hid (Par w2 b T (l ++ numB (xs.length : Int) ++ (xs.take (k + 1)).flatMap stampP)) := by
        show Par _ _ _ _
        rw [List.take_succ_eq_append_getElem hlt, List.flatMap_append, HXE.out]
        simp only [List.flatMap_cons, List.flatMap_nil, List.append_nil]
        rw [← List.append_assoc]
        exact hp2
      have HS2 := Lib.hid (HSK.out.trans hs2)
      clear e0 e1 x0 x1 hp2 hs2
      go_wp2
      go_roundw
      case rel => exact ⟨k + 1, by omega, by go_num, HP2.out, HS2.out⟩
      case measure => simp [intOf]; omega
    · obtain rfl : k = xs.length := by omega
      have HPF : Hid (Par wr b T (l ++ (numB (xs.length : Int) ++ xs.flatMap stampP))) := by
        show Par _ _ _ _
        rw [List.take_length] at hpk
        rw [← List.append_assoc]
        exact hpk
      have HSF := Lib.hid hsk
      clear hpk hsk
      go_wp2
      refine bodyPost_end (results_none rfl _ _ _) rfl ?_
      exact ⟨rfl, HPF.out, HSF.out⟩

set_option maxRecDepth 100000 in
set_option maxHeartbeats 4000000 in
theorem pids_any (xs : List (Id3)) (hx : ∀ x ∈ xs, idR x) (hn : xs.length ≤ 1000000) (A : Option Addr) (cp : Nat) (W0 : World) (hr : Rd W0 A (xs.flatMap idC)) (w : World) (b : Nat) (hW : W0.heap.size ≤ b) (hbw : Below b W0 w) (T : TypeId) (l : List UInt8) (hp : Par w b T l) (hl : l.length ≤ 700000000000) :
    Calls Try.prog 43 #[.pointer (some ⟨b, 0, none⟩), .slice A xs.length cp, .func (.func 39) #[.pointer (some ⟨b, 0, none⟩)] #[]] w fun e w' => e = .returned (.tuple #[]) ∧ Par w' b T (l ++ (numB (xs.length : Int) ++ xs.flatMap idP)) ∧ Stp b w w' := by
  have HP := Lib.hid hp
  have HL := Lib.hid hl
  have HX := Lib.hid hx
  have HR := Lib.hid hr
  have HBW := Lib.hid hbw
  have hlen : ∀ k, k ≤ xs.length → ((xs.take k).flatMap idP).length ≤ 27 * k := by
    intro k
    induction k with
    | zero => intro _; simp
    | succ k ih =>
      intro hk
      have h1 := ih (by omega)
      have h2 := idP_len (HX.out _ (List.getElem_mem (show k < xs.length by omega)))
      rw [List.take_succ_eq_append_getElem (by omega), List.flatMap_append, List.length_append]
      simp only [List.flatMap_cons, List.flatMap_nil, List.append_nil]
      omega
  have HLEN := Lib.hid hlen
  clear hp hl hx hr hbw hlen
  have hk1 : (xs.length : Int) ≤ 9223372036854775807 := by omega
  go_enter Try.func43, Try.ntmps43
  go_wp2_with fail
  refine (pnat_any (xs.length : Int) hk1 _ b T l HP.out (by have := HL.out; omega)).mono ?_
  rintro e w1 ⟨rfl, hp1, hs1⟩
  have HP1 := Lib.hid hp1
  have HS1 := Lib.hid hs1
  have R0 : Hid (Par w1 b T (l ++ numB (xs.length : Int) ++ (xs.take 0).flatMap idP) ∧ Stp b w w1) := by
    refine ⟨?_, hs1⟩
    simpa using hp1
  clear hp1 hs1 hk1
  go_wp2
  go_loopw [16] (fun v wr => ∃ k : Nat, k ≤ xs.length ∧ v = .int .i64 (k : Int) ∧ Par wr b T (l ++ numB (xs.length : Int) ++ (xs.take k).flatMap idP) ∧ Stp b w wr) (fun v _ => xs.length - (intOf v).toNat)
  case atStart => exact ⟨0, by omega, rfl, R0.out.1, R0.out.2⟩
  case round =>
    obtain ⟨k, hk, rfl, hpk, hsk⟩ := hrel
    by_cases hlt : k < xs.length
    · have hbk := HBW.out.trans hsk.below
      obtain ⟨q, off, rfl, hq, hcl⟩ := rd_cells (HR.out.below hbk hW) (c := 3) (fun _ _ => rfl) (by omega) hlt
      obtain ⟨x, hx⟩ : ∃ x, xs[k] = x := ⟨_, rfl⟩
      have hxr := Lib.hid (HX.out _ (List.getElem_mem hlt))
      have HXE := Lib.hid hx
      rw [hx] at hcl hxr
      have x0 : wr.cell? ⟨q, off + k * 3, none⟩ = some (.int .i64 x.1) := hcl 0 (by omega)
      have x1 : wr.cell? ⟨q, off + k * 3 + 1, none⟩ = some (.int .i64 x.2.1) := hcl 1 (by omega)
      have x2 : wr.cell? ⟨q, off + k * 3 + 2, none⟩ = some (.int .i64 x.2.2) := hcl 2 (by omega)
      have hk0 : (0 : Int) ≤ (k : Int) := by omega
      have hk1 : (k : Int) < (xs.length : Int) := by omega
      have hT := Tri.new wr 40 x.1 x.2.1 x.2.2
      have hpl := hpk.lt
      have HPK := Lib.hid (hpk.keep (below_box (.cells #[.int .i64 x.1, .int .i64 x.2.1, .int .i64 x.2.2] 40)))
      have HSK := Lib.hid (hsk.alloc (.cells #[.int .i64 x.1, .int .i64 x.2.1, .int .i64 x.2.2] 40) hpl)
      have hll : Hid ((l ++ numB (xs.length : Int) ++ (xs.take k).flatMap idP).length ≤ 700000000000 + 1000000000) := by
        show _ ≤ _
        have h1 := HL.out
        have h2 := HLEN.out k hk
        have h3 := numB_len (n := (xs.length : Int)) (by omega)
        simp only [List.length_append]
        omega
      obtain ⟨e0, e1, e2⟩ := hT.cells
      clear hx hcl hT hpk hsk hbk R0 HP1 HS1 HP
      go_wp2_with fail
      refine (pid_any x hxr.out _ b T _ HPK.out (by have := hll.out; omega)).mono ?_
      rintro e w2 ⟨rfl, hp2, hs2⟩
      have HP2 : Hid (Par w2 b T (l ++ numB (xs.length : Int) ++ (xs.take (k + 1)).flatMap idP)) := by
        show Par _ _ _ _
        rw [List.take_succ_eq_append_getElem hlt, List.flatMap_append, HXE.out]
        simp only [List.flatMap_cons, List.flatMap_nil, List.append_nil]
        rw [← List.append_assoc]
        exact hp2
      have HS2 := Lib.hid (HSK.out.trans hs2)
      clear e0 e1 e2 x0 x1 x2 hp2 hs2
      go_wp2
      go_roundw
      case rel => exact ⟨k + 1, by omega, by go_num, HP2.out, HS2.out⟩
      case measure => simp [intOf]; omega
    · obtain rfl : k = xs.length := by omega
      have HPF : Hid (Par wr b T (l ++ (numB (xs.length : Int) ++ xs.flatMap idP))) := by
        show Par _ _ _ _
        rw [List.take_length] at hpk
        rw [← List.append_assoc]
        exact hpk
      have HSF := Lib.hid hsk
      clear hpk hsk
      go_wp2
      refine bodyPost_end (results_none rfl _ _ _) rfl ?_
      exact ⟨rfl, HPF.out, HSF.out⟩

end Go.Proofs.Ytphnimmhjnhajaa.W8

