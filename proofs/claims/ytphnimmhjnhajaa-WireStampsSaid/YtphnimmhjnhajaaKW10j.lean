/-
  Layer 8, walks of the program: as many as come.
-/
import Derived.Test.YtphnimmhjnhajaaKW10i
namespace Go.Proofs.Ytphnimmhjnhajaa.W8
open Go.RowKit Go.PlainAid M8 V1
set_option linter.unusedVariables false

/-- As many as the number ahead tells; none, if it tells more than there may be. -/
def pListM {α : Type} (most : Nat) (p : P α) : P (List α) := pBind pNat fun n => if n ≤ (most : Int) then pMany p n.toNat else pFail
theorem pMany_snoc {α : Type} (p : P α) : ∀ (k : Nat) (s : Bytes), pMany p (k + 1) s = match pMany p k s with | none => none | some (l, t) => match p t with | none => none | some (a, r) => some (l ++ [a], r) := by
  intro k
  have h1 : ∀ (j : Nat) (t : Bytes), pMany p (j + 1) t = match p t with | none => none | some (a, r) => match pMany p j r with | none => none | some (l, r2) => some (a :: l, r2) := by
    intro j t
    conv => lhs; unfold pMany
    unfold pBind pMap
    cases hq : p t with
    | none => simp
    | some x =>
      obtain ⟨a, r⟩ := x
      cases hq2 : pMany p j r with
      | none => simp [hq2]
      | some y => simp [hq2]
  induction k with
  | zero =>
    intro s
    rw [h1 0 s]
    have h0 : ∀ t, pMany p 0 t = some ([], t) := fun t => rfl
    rw [h0 s]
    simp only [h0]
    cases hq : p s with
    | none => rfl
    | some x => rfl
  | succ k ih =>
    intro s
    rw [h1 (k + 1) s, h1 k s]
    cases hq : p s with
    | none => rfl
    | some x =>
      obtain ⟨a, r⟩ := x
      simp only
      rw [ih r]
      cases hq2 : pMany p k r with
      | none => rfl
      | some y =>
        obtain ⟨l, t⟩ := y
        simp only
        cases hq3 : p t with
        | none => rfl
        | some z => rfl
theorem pMany_none {α : Type} {p : P α} {k : Nat} {s : Bytes} (h : pMany p k s = none) : ∀ (j : Nat), k ≤ j → pMany p j s = none := by
  intro j hj
  induction j with
  | zero =>
    obtain rfl : k = 0 := by omega
    exact h
  | succ j ih =>
    by_cases hk : k = j + 1
    · rw [← hk]; exact h
    · rw [pMany_snoc, ih (by omega)]
theorem pMany_len {α : Type} {p : P α} : ∀ (k : Nat) (s : Bytes) (l : List α) (t : Bytes), pMany p k s = some (l, t) → l.length = k := by
  intro k
  induction k with
  | zero =>
    intro s l t h
    unfold pMany at h
    injection h with h
    injection h with h _
    rw [← h]
    rfl
  | succ k ih =>
    intro s l t h
    rw [pMany_snoc] at h
    cases hq : pMany p k s with
    | none => rw [hq] at h; cases h
    | some y =>
      obtain ⟨l2, t2⟩ := y
      rw [hq] at h
      simp only at h
      cases hp : p t2 with
      | none => rw [hp] at h; cases h
      | some z =>
        obtain ⟨a, r⟩ := z
        rw [hp] at h
        injection h with h
        injection h with h _
        rw [← h, List.length_append, ih s l2 t2 hq]
        rfl
/-- How far the taking is. -/
def Run {α : Type} (p : P α) (n : Nat) (s1 : Bytes) (k : Nat) (acc : List α) (sk : Bytes) (bk : Bool) : Prop := (bk = false → pMany p k s1 = some (acc, sk)) ∧ (bk = true → pMany p n s1 = none)
theorem Run.start {α : Type} (p : P α) (n : Nat) (s1 : Bytes) : Run p n s1 0 [] s1 false := ⟨fun _ => rfl, fun h => nomatch h⟩
theorem Run.step {α : Type} {p : P α} {n k : Nat} {s1 sk s2 : Bytes} {acc : List α} {b2 : Bool} {x : α} (h : Run p n s1 k acc sk false) (hk : k < n) (hp : RP p sk false x s2 b2) : Run p n s1 (k + 1) (acc ++ [x]) s2 b2 := by
  have h1 := h.1 rfl
  refine ⟨fun hb => ?_, fun hb => ?_⟩
  · rw [pMany_snoc, h1]
    simp only
    cases hq : p sk with
    | none => have := (hp.2.1 rfl).2 hq; rw [hb] at this; cases this
    | some y =>
      obtain ⟨a, t⟩ := y
      obtain ⟨rfl, rfl, _⟩ := (hp.2.1 rfl).1 a t hq
      rfl
  · refine pMany_none (k := k + 1) ?_ n (by omega)
    rw [pMany_snoc, h1]
    simp only
    cases hq : p sk with
    | none => rfl
    | some y =>
      obtain ⟨a, t⟩ := y
      have := ((hp.2.1 rfl).1 a t hq).2.2
      rw [hb] at this
      cases this
/-- What the number ahead and the loop make together. -/
theorem Run.done {α : Type} {p : P α} {most k : Nat} {n : Int} {s s1 sk : Bytes} {bad b1 bk : Bool} {acc : List α} (hn : natD n) (h1 : RP pNat s bad n s1 b1) (hl : sk.length ≤ s1.length)
    (h : (b1 || !decide (n ≤ (most : Int))) = false → Run p n.toNat s1 k acc sk bk ∧ (bk = false → k = n.toNat)) (hb : (b1 || !decide (n ≤ (most : Int))) = true → bk = true) : RP (pListM most p) s bad acc sk bk := by
  refine ⟨fun hbad => hb (by rw [h1.1 hbad]; rfl), fun hbad => ⟨fun a0 r0 hp => ?_, fun hp => ?_⟩, Nat.le_trans hl h1.2.2⟩
  · obtain ⟨m, t, h3, h4⟩ := pBind_inv hp
    obtain ⟨rfl, rfl, h5⟩ := (h1.2.1 hbad).1 m t h3
    split at h4
    · rename_i hm
      have hg : (b1 || !decide (n ≤ (most : Int))) = false := by rw [h5, decide_eq_true hm]; rfl
      obtain ⟨hr, hk⟩ := h hg
      cases bk with
      | true => rw [hr.2 rfl] at h4; cases h4
      | false =>
        have h6 := hr.1 rfl
        rw [hk rfl, h4] at h6
        injection h6 with h6
        injection h6 with h7 h8
        exact ⟨h7.symm, h8.symm, rfl⟩
    · cases h4
  · cases hq : pNat s with
    | none => exact hb (by rw [(h1.2.1 hbad).2 hq]; rfl)
    | some y =>
      obtain ⟨m, t⟩ := y
      obtain ⟨rfl, rfl, h5⟩ := (h1.2.1 hbad).1 m t hq
      unfold pListM pBind at hp
      rw [hq] at hp
      simp only at hp
      split at hp
      · rename_i hm
        have hg : (b1 || !decide (n ≤ (most : Int))) = false := by rw [h5, decide_eq_true hm]; rfl
        obtain ⟨hr, hk⟩ := h hg
        cases bk with
        | true => rfl
        | false =>
          have h6 := hr.1 rfl
          rw [hk rfl, hp] at h6
          cases h6
      · rename_i hm
        exact hb (by rw [decide_eq_false hm]; simp)
/-- What the taking of as many as come tells. -/
def TAE {α : Type} (EL : TypeId) (c : Nat) (C : α → List Value) (D : α → Prop) (p : P α) (most r : Nat) (s : List UInt8) (bad : Bool) (w : World) (e : Ending) (w' : World) : Prop :=
  ∃ (v : Value) (l : List α) (s' : List UInt8) (bad' : Bool), e = .returned v ∧ w'.ownsRow w.heap.size EL c v l.length (l.flatMap C) ∧ (∀ x ∈ l, D x) ∧ l.length ≤ most ∧ Rdr w' r s' bad' ∧ RP (pListM most p) s bad l s' bad' ∧ Only r w w'
theorem cells_new2 (w : World) (cs : List Value) (t : TypeId) : ∀ j u, cs[j]? = some u → (w.alloc (.cells cs.toArray t)).cell? ((⟨w.heap.size, 0, none⟩ : Addr).add j) = some u := by
  intro j u h
  rw [add_none, Nat.zero_add, cell_of_row _ _ j _ t (0, 0) (heap_alloc_new w _)]
  simpa using h
theorem only_grown {r B : Nat} {w w1 w2 : World} {row : Option Nat} (h : Only r w w1) (hg : w1.grownBy w2 row) (hr : ∀ q, row = some q → w.heap.size ≤ q) : Only r w w2 := by
  refine ⟨hg.os.trans h.os, hg.tape.trans h.tape, hg.output.trans h.output, Nat.le_trans h.size hg.size, fun c h1 h2 => ?_⟩
  rw [hg.block c (Nat.lt_of_lt_of_le h2 h.size) (fun e => by have := hr c e.symm; omega)]
  exact h.kept c h1 h2

theorem info_st : (Try.prog.info? 23).map (fun i => (i.zero, i.size, i.bytes)) = some (some (.agg #[.int .i64 0, .int .i64 0]), 2, 16) := by kernel_rfl
set_option maxRecDepth 100000 in
set_option maxHeartbeats 8000000 in
theorem rstamps_any (most : Nat) (hm : most ≤ 2000) (r : Nat) (s : List UInt8) (bad : Bool) (hz : s.length ≤ 1000000) (w : World) (hr : Rdr w r s bad) :
    Calls Try.prog 53 #[.pointer (some ⟨r, 0, none⟩), .int .i64 (most : Int), .func (.func 25) #[.pointer (some ⟨r, 0, none⟩)] #[]] w (TAE 23 2 stampC stampD pStamp most r s bad w) := by
  obtain ⟨i0, hi0, hz0, hz1, hz2⟩ := info_parts info_st
  have HR := Lib.hid hr
  have HZ := Lib.hid hz
  have HLT := Lib.hid hr.lt
  clear hr hz
  go_enter Try.func53, Try.ntmps53
  go_wp2_with fail
  refine (rnat_any r s bad HZ.out _ HR.out).mono ?_
  rintro e w1 ⟨n, s1, b1, rfl, hn, hr1, hp1, ho1⟩
  have HN := Lib.hid hn
  have HP1 := Lib.hid hp1
  have HO1 := Lib.hid ho1
  have HR1 := Lib.hid hr1
  obtain ⟨ok, hok⟩ : ∃ ok, decide (n ≤ (most : Int)) = ok := ⟨_, rfl⟩
  clear hn hp1 ho1 hr1
  go_wp2_with fail
  refine (hold_any r s1 b1 ok _ HR1.out).mono ?_
  rintro e w2 ⟨rfl, hr2, ho2⟩
  have HOK := Lib.hid hok
  obtain ⟨b2, hb2⟩ : ∃ b2, (b1 || !ok) = b2 := ⟨_, rfl⟩
  rw [hb2] at hr2
  have HB2 : Hid ((b1 || !decide (n ≤ (most : Int))) = b2) := by show _ = _; rw [HOK.out]; exact hb2
  have HR2 := Lib.hid hr2
  have HO2 := Lib.hid (HO1.out.trans ho2)
  have R0 : Hid (w2.ownsRow w.heap.size 23 2 (.slice none 0 0) 0 ([] : List Value) ∧ (b2 = false → Run pStamp n.toNat s1 0 [] s1 b2)) := ⟨World.ownsRow_nil _ _ _ _, fun h => by rw [h]; exact Run.start _ _ _⟩
  clear hr2 ho2 hok hb2
  go_wp2
  go_loopw [8, 9] (fun lv iv wr => ∃ (k : Nat) (acc : List (Int × Int)) (sk : List UInt8) (bk : Bool), iv = .int .i64 (k : Int) ∧ (k : Int) ≤ n ∧ acc.length = k ∧ k ≤ most ∧ wr.ownsRow w.heap.size 23 2 lv k (acc.flatMap stampC) ∧ (∀ x ∈ acc, stampD x) ∧ Hid (Rdr wr r sk bk) ∧ sk.length ≤ s1.length ∧ Hid (b2 = false → Run pStamp n.toNat s1 k acc sk bk) ∧ Hid (b2 = true → bk = true) ∧ Hid (Only r w wr)) (fun _ iv _ => n.toNat - (intOf iv).toNat)
  case atStart => exact ⟨0, [], s1, b2, rfl, HN.out.1, rfl, by omega, R0.out.1, by simp, HR2.out, Nat.le_refl _, R0.out.2, fun h => h, HO2.out⟩
  case round =>
    obtain ⟨k, acc, sk, bk, rfl, hkn, hkl, hkm, hown, hD, HRK, hsk, HRUN, HBK, HOK2⟩ := hrel
    clear R0
    obtain ⟨q0, q1⟩ := HRK.out.cells
    by_cases hlt : (k : Int) < n
    · have hd1 : decide ((k : Int) < n) = true := decide_eq_true hlt
      cases bk
      · have hb2f : b2 = false := by
          cases h : b2 with
          | false => rfl
          | true => exact (HBK.out h).symm ▸ rfl
        have HB2F := Lib.hid hb2f
        have HOWN := Lib.hid hown
        have HKL := Lib.hid hkl
        have HDD := Lib.hid hD
        have hnm : n ≤ (most : Int) := by
          have h1 := HB2.out
          rw [hb2f, Bool.or_eq_false_iff] at h1
          have h2 := h1.2
          simpa using h2
        clear hb2f hown hkl hD q0
        go_wp2_with fail
        refine (rstamp_any r sk false (Nat.le_trans hsk (Nat.le_trans HP1.out.2.2 HZ.out)) _ HRK.out).mono ?_
        rintro e w3 ⟨x, s3, b3, rfl, hx, hr3, hp3, ho3⟩
        have HX := Lib.hid hx
        have HP3 := Lib.hid hp3
        have hsz3 : w.heap.size ≤ w3.heap.size := Nat.le_trans HOK2.out.size ho3.size
        have HOWN3 := Lib.hid ((own_only HOWN.out ho3 HLT.out).alloc (.cells #[.int .i64 x.1, .int .i64 x.2] 23))
        have HR3 := Lib.hid (hr3.keep (below_box (.cells #[.int .i64 x.1, .int .i64 x.2] 23)))
        have HO3 := Lib.hid ((HOK2.out.trans ho3).alloc (.cells #[.int .i64 x.1, .int .i64 x.2] 23))
        clear hx hp3 hr3 ho3 q1
        go_wp2_with (at_builtin; refine wpList_append_own _ rfl (.tmp 29) (.tmp 32) 41 rfl w.heap.size 23 i0 (.agg #[.int .i64 0, .int .i64 0]) 2 16 Try.underlying41 hi0 hz0 hz1 hz2 rfl (by decide) _ _ _ rfl HOWN3.out ⟨w3.heap.size, 0, none⟩ 1 1 [.int .i64 x.1, .int .i64 x.2] rfl rfl (cells_new2 w3 [.int .i64 x.1, .int .i64 x.2] 23) (by simp [Value.oneCell']) (by unfold maxLen; omega) (by omega) (by simp; omega) ?_; intro v4 w4 hown4 hg4 _)
        have hgo : ∀ q, Value.ownBlock _ = some q → w.heap.size ≤ q := fun q hq => (HOWN3.out.lt q hq).1
        have HO4 := Lib.hid (only_grown (B := 0) HO3.out hg4 hgo)
        have HR4 : Hid (Rdr w4 r s3 b3) := (hg4.block r HR3.out.lt (fun e => by have := hgo r e.symm; have := HLT.out; omega)).trans HR3.out
        have HOWN4 : Hid (w4.ownsRow w.heap.size 23 2 v4 (k + 1) ((acc ++ [x]).flatMap stampC)) := by
          show World.ownsRow _ _ _ _ _ _ _
          rw [List.flatMap_append]
          simp only [List.flatMap_cons, List.flatMap_nil, List.append_nil]
          exact hown4
        have HRUN4 : Hid (b2 = false → Run pStamp n.toNat s1 (k + 1) (acc ++ [x]) s3 b3) := fun h => (HRUN.out h).step (by have := HN.out.1; omega) HP3.out
        have hs3 : s3.length ≤ s1.length := Nat.le_trans HP3.out.2.2 hsk
        have HDN : Hid (∀ y ∈ acc ++ [x], stampD y) := fun y hy => by
          rcases List.mem_append.1 hy with h | h
          · exact HDD.out y h
          · rw [List.mem_singleton.1 h]; exact HX.out
        have HKL4 : Hid ((acc ++ [x]).length = k + 1) := by show _ = _; rw [List.length_append, HKL.out]; rfl
        have HBK4 : Hid (b2 = true → b3 = true) := fun h => by rw [HB2F.out] at h; cases h
        clear hown4 hg4 hgo
        go_wp2
        go_roundw
        case rel => exact ⟨k + 1, acc ++ [x], s3, b3, by go_num, by omega, HKL4.out, by omega, HOWN4.out, HDN.out, HR4, hs3, HRUN4, HBK4, HO4⟩
        case measure => simp [intOf]; omega
      · have HOWN := Lib.hid hown
        have HKL := Lib.hid hkl
        have HDD := Lib.hid hD
        clear hown hkl hD q0
        go_wp2
        go_ret
        refine ⟨_, acc, sk, true, rfl, by rw [HKL.out]; exact HOWN.out, HDD.out, by rw [HKL.out]; exact hkm, HRK.out, Run.done (k := k) HN.out HP1.out hsk (fun h => ⟨HRUN.out (by rw [← HB2.out]; exact h), fun h2 => nomatch h2⟩) (fun _ => rfl), HOK2.out⟩
    · have hd1 : decide ((k : Int) < n) = false := decide_eq_false hlt
      have HOWN := Lib.hid hown
      have HKL := Lib.hid hkl
      have HDD := Lib.hid hD
      have hkn2 : k = n.toNat := by omega
      have HKN := Lib.hid hkn2
      clear hown hkl hD q0 q1 hkn2
      go_wp2
      go_ret
      refine ⟨_, acc, sk, bk, rfl, by rw [HKL.out]; exact HOWN.out, HDD.out, by rw [HKL.out]; exact hkm, HRK.out, Run.done (k := k) HN.out HP1.out hsk (fun h => ⟨HRUN.out (by rw [← HB2.out]; exact h), fun _ => HKN.out⟩) (fun h => HBK.out (by rw [← HB2.out]; exact h)), HOK2.out⟩

theorem info_idt : (Try.prog.info? 40).map (fun i => (i.zero, i.size, i.bytes)) = some (some (.agg #[.int .i64 0, .int .i64 0, .int .i64 0]), 3, 24) := by kernel_rfl
set_option maxRecDepth 100000 in
set_option maxHeartbeats 8000000 in
theorem rids_any (most : Nat) (hm : most ≤ 2000) (r : Nat) (s : List UInt8) (bad : Bool) (hz : s.length ≤ 1000000) (w : World) (hr : Rdr w r s bad) :
    Calls Try.prog 54 #[.pointer (some ⟨r, 0, none⟩), .int .i64 (most : Int), .func (.func 49) #[.pointer (some ⟨r, 0, none⟩)] #[]] w (TAE 40 3 idC idD pId most r s bad w) := by
  obtain ⟨i0, hi0, hz0, hz1, hz2⟩ := info_parts info_idt
  have HR := Lib.hid hr
  have HZ := Lib.hid hz
  have HLT := Lib.hid hr.lt
  clear hr hz
  go_enter Try.func54, Try.ntmps54
  go_wp2_with fail
  refine (rnat_any r s bad HZ.out _ HR.out).mono ?_
  rintro e w1 ⟨n, s1, b1, rfl, hn, hr1, hp1, ho1⟩
  have HN := Lib.hid hn
  have HP1 := Lib.hid hp1
  have HO1 := Lib.hid ho1
  have HR1 := Lib.hid hr1
  obtain ⟨ok, hok⟩ : ∃ ok, decide (n ≤ (most : Int)) = ok := ⟨_, rfl⟩
  clear hn hp1 ho1 hr1
  go_wp2_with fail
  refine (hold_any r s1 b1 ok _ HR1.out).mono ?_
  rintro e w2 ⟨rfl, hr2, ho2⟩
  have HOK := Lib.hid hok
  obtain ⟨b2, hb2⟩ : ∃ b2, (b1 || !ok) = b2 := ⟨_, rfl⟩
  rw [hb2] at hr2
  have HB2 : Hid ((b1 || !decide (n ≤ (most : Int))) = b2) := by show _ = _; rw [HOK.out]; exact hb2
  have HR2 := Lib.hid hr2
  have HO2 := Lib.hid (HO1.out.trans ho2)
  have R0 : Hid (w2.ownsRow w.heap.size 40 3 (.slice none 0 0) 0 ([] : List Value) ∧ (b2 = false → Run pId n.toNat s1 0 [] s1 b2)) := ⟨World.ownsRow_nil _ _ _ _, fun h => by rw [h]; exact Run.start _ _ _⟩
  clear hr2 ho2 hok hb2
  go_wp2
  go_loopw [8, 9] (fun lv iv wr => ∃ (k : Nat) (acc : List (Id3)) (sk : List UInt8) (bk : Bool), iv = .int .i64 (k : Int) ∧ (k : Int) ≤ n ∧ acc.length = k ∧ k ≤ most ∧ wr.ownsRow w.heap.size 40 3 lv k (acc.flatMap idC) ∧ (∀ x ∈ acc, idD x) ∧ Hid (Rdr wr r sk bk) ∧ sk.length ≤ s1.length ∧ Hid (b2 = false → Run pId n.toNat s1 k acc sk bk) ∧ Hid (b2 = true → bk = true) ∧ Hid (Only r w wr)) (fun _ iv _ => n.toNat - (intOf iv).toNat)
  case atStart => exact ⟨0, [], s1, b2, rfl, HN.out.1, rfl, by omega, R0.out.1, by simp, HR2.out, Nat.le_refl _, R0.out.2, fun h => h, HO2.out⟩
  case round =>
    obtain ⟨k, acc, sk, bk, rfl, hkn, hkl, hkm, hown, hD, HRK, hsk, HRUN, HBK, HOK2⟩ := hrel
    clear R0
    obtain ⟨q0, q1⟩ := HRK.out.cells
    by_cases hlt : (k : Int) < n
    · have hd1 : decide ((k : Int) < n) = true := decide_eq_true hlt
      cases bk
      · have hb2f : b2 = false := by
          cases h : b2 with
          | false => rfl
          | true => exact (HBK.out h).symm ▸ rfl
        have HB2F := Lib.hid hb2f
        have HOWN := Lib.hid hown
        have HKL := Lib.hid hkl
        have HDD := Lib.hid hD
        have hnm : n ≤ (most : Int) := by
          have h1 := HB2.out
          rw [hb2f, Bool.or_eq_false_iff] at h1
          have h2 := h1.2
          simpa using h2
        clear hb2f hown hkl hD q0
        go_wp2_with fail
        refine (rid_any r sk false (Nat.le_trans hsk (Nat.le_trans HP1.out.2.2 HZ.out)) _ HRK.out).mono ?_
        rintro e w3 ⟨x, s3, b3, rfl, hx, hr3, hp3, ho3⟩
        have HX := Lib.hid hx
        have HP3 := Lib.hid hp3
        have hsz3 : w.heap.size ≤ w3.heap.size := Nat.le_trans HOK2.out.size ho3.size
        have HOWN3 := Lib.hid ((own_only HOWN.out ho3 HLT.out).alloc (.cells #[.int .i64 x.1, .int .i64 x.2.1, .int .i64 x.2.2] 40))
        have HR3 := Lib.hid (hr3.keep (below_box (.cells #[.int .i64 x.1, .int .i64 x.2.1, .int .i64 x.2.2] 40)))
        have HO3 := Lib.hid ((HOK2.out.trans ho3).alloc (.cells #[.int .i64 x.1, .int .i64 x.2.1, .int .i64 x.2.2] 40))
        clear hx hp3 hr3 ho3 q1
        go_wp2_with (at_builtin; refine wpList_append_own _ rfl (.tmp 29) (.tmp 32) 42 rfl w.heap.size 40 i0 (.agg #[.int .i64 0, .int .i64 0, .int .i64 0]) 3 24 Try.underlying42 hi0 hz0 hz1 hz2 rfl (by decide) _ _ _ rfl HOWN3.out ⟨w3.heap.size, 0, none⟩ 1 1 [.int .i64 x.1, .int .i64 x.2.1, .int .i64 x.2.2] rfl rfl (cells_new2 w3 [.int .i64 x.1, .int .i64 x.2.1, .int .i64 x.2.2] 40) (by simp [Value.oneCell']) (by unfold maxLen; omega) (by omega) (by simp; omega) ?_; intro v4 w4 hown4 hg4 _)
        have hgo : ∀ q, Value.ownBlock _ = some q → w.heap.size ≤ q := fun q hq => (HOWN3.out.lt q hq).1
        have HO4 := Lib.hid (only_grown (B := 0) HO3.out hg4 hgo)
        have HR4 : Hid (Rdr w4 r s3 b3) := (hg4.block r HR3.out.lt (fun e => by have := hgo r e.symm; have := HLT.out; omega)).trans HR3.out
        have HOWN4 : Hid (w4.ownsRow w.heap.size 40 3 v4 (k + 1) ((acc ++ [x]).flatMap idC)) := by
          show World.ownsRow _ _ _ _ _ _ _
          rw [List.flatMap_append]
          simp only [List.flatMap_cons, List.flatMap_nil, List.append_nil]
          exact hown4
        have HRUN4 : Hid (b2 = false → Run pId n.toNat s1 (k + 1) (acc ++ [x]) s3 b3) := fun h => (HRUN.out h).step (by have := HN.out.1; omega) HP3.out
        have hs3 : s3.length ≤ s1.length := Nat.le_trans HP3.out.2.2 hsk
        have HDN : Hid (∀ y ∈ acc ++ [x], idD y) := fun y hy => by
          rcases List.mem_append.1 hy with h | h
          · exact HDD.out y h
          · rw [List.mem_singleton.1 h]; exact HX.out
        have HKL4 : Hid ((acc ++ [x]).length = k + 1) := by show _ = _; rw [List.length_append, HKL.out]; rfl
        have HBK4 : Hid (b2 = true → b3 = true) := fun h => by rw [HB2F.out] at h; cases h
        clear hown4 hg4 hgo
        go_wp2
        go_roundw
        case rel => exact ⟨k + 1, acc ++ [x], s3, b3, by go_num, by omega, HKL4.out, by omega, HOWN4.out, HDN.out, HR4, hs3, HRUN4, HBK4, HO4⟩
        case measure => simp [intOf]; omega
      · have HOWN := Lib.hid hown
        have HKL := Lib.hid hkl
        have HDD := Lib.hid hD
        clear hown hkl hD q0
        go_wp2
        go_ret
        refine ⟨_, acc, sk, true, rfl, by rw [HKL.out]; exact HOWN.out, HDD.out, by rw [HKL.out]; exact hkm, HRK.out, Run.done (k := k) HN.out HP1.out hsk (fun h => ⟨HRUN.out (by rw [← HB2.out]; exact h), fun h2 => nomatch h2⟩) (fun _ => rfl), HOK2.out⟩
    · have hd1 : decide ((k : Int) < n) = false := decide_eq_false hlt
      have HOWN := Lib.hid hown
      have HKL := Lib.hid hkl
      have HDD := Lib.hid hD
      have hkn2 : k = n.toNat := by omega
      have HKN := Lib.hid hkn2
      clear hown hkl hD q0 q1 hkn2
      go_wp2
      go_ret
      refine ⟨_, acc, sk, bk, rfl, by rw [HKL.out]; exact HOWN.out, HDD.out, by rw [HKL.out]; exact hkm, HRK.out, Run.done (k := k) HN.out HP1.out hsk (fun h => ⟨HRUN.out (by rw [← HB2.out]; exact h), fun _ => HKN.out⟩) (fun h => HBK.out (by rw [← HB2.out]; exact h)), HOK2.out⟩

end Go.Proofs.Ytphnimmhjnhajaa.W8

