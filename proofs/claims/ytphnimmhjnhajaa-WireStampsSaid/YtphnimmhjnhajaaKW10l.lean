/-
  Layer 8, walks of the program: as many operations as come.
-/
import Derived.Test.YtphnimmhjnhajaaKW10k
import Derived.Great.BuildSlice
namespace Go.Proofs.Ytphnimmhjnhajaa.W8
open Go.RowKit Go.PlainAid M8 V1
set_option linter.unusedVariables false

theorem info_opt : (Try.prog.info? 44).map (fun i => (i.zero, i.size, i.bytes)) = some (some (.agg noOp.toArray), 18, 192) := by kernel_rfl
/-- A row of ours stays where a row of another kind grows. -/
theorem own_grown {w w' : World} {B B2 : Nat} {e e2 : TypeId} {c c2 : Nat} {v v2 : Value} {n n2 : Nat} {xs xs2 : List Value} (h : w.ownsRow B e c v n xs) (h2 : w.ownsRow B2 e2 c2 v2 n2 xs2) (hg : w.grownBy w' v2.ownBlock) (he : e ≠ e2) : w'.ownsRow B e c v n xs := by
  refine ⟨h.1, ?_⟩
  rcases h.2 with h3 | ⟨g, cap, cur, hv, hgB, hh, h5, h6, h7, h8⟩
  · exact .inl h3
  · refine .inr ⟨g, cap, cur, hv, hgB, (hg.block g (Array.getElem?_eq_some_iff.1 hh).1 (fun e1 => ?_)).trans hh, h5, h6, h7, h8⟩
    rcases h2.2 with ⟨k1, _⟩ | ⟨g2, cap2, cur2, k1, _, kh, _⟩
    · rw [k1] at e1; cases e1
    · rw [k1] at e1
      have : g = g2 := by simpa [Value.ownBlock] using e1
      subst this
      rw [hh] at kh
      injection kh with kh
      injection kh with _ k2 _
      exact he k2
theorem own_below {w w' : World} {B : Nat} {e : TypeId} {c : Nat} {v : Value} {n : Nat} {xs : List Value} (h : w.ownsRow B e c v n xs) (hb : Below w.heap.size w w') : w'.ownsRow B e c v n xs := by
  cases hv : v.ownBlock with
  | none => exact h.kept (grown_of hb) (.inl hv)
  | some q => exact h.kept (grown_of hb) (.inr (by rw [hv]; simp))
theorem cells_each (x : OpR) : ∀ u ∈ x.cells, u.oneCell' = true := by
  intro u hu
  have h := cells_one x
  rw [Array.all_eq_true_iff_forall_mem] at h
  exact h u (by simpa using hu)
theorem OpGood.only {w w' : World} {r B : Nat} {x : OpR} (h : OpGood w B x) (ho : Only r w w') (hr : r < B) : OpGood w' B x := { h with dots := own_only h.dots ho hr, elems := own_only h.elems ho hr }
theorem OpGood.below {w w' : World} {B : Nat} {x : OpR} (h : OpGood w B x) (hb : Below w.heap.size w w') : OpGood w' B x := { h with dots := own_below h.dots hb, elems := own_below h.elems hb }
theorem OpGood.grown {w w' : World} {B B2 : Nat} {x : OpR} {v2 : Value} {n2 : Nat} {xs2 : List Value} (h : OpGood w B x) (h2 : w.ownsRow B2 44 18 v2 n2 xs2) (hg : w.grownBy w' v2.ownBlock) : OpGood w' B x := { h with dots := own_grown h.dots h2 hg (by decide), elems := own_grown h.elems h2 hg (by decide) }
theorem OpGood.mono {w : World} {B B' : Nat} {x : OpR} (h : OpGood w B x) (hb : B' ≤ B) : OpGood w B' x := { h with dots := own_mono h.dots hb, elems := own_mono h.elems hb }
theorem build_op {ops : Array Oper} {rest : List Oper} {o : Oper} {a : Act} {w : World} {Q : Exit → Act → World → Prop} (hg : o.guard = none) (s : Operand) (ho : o.op = .buildSlice 25 1 #[(0, s)]) (y : OpR) (hs : a.eval s = .agg y.cells.toArray)
    (h : wpList Try.prog ops Q rest (a.put o.dst (.slice (some ⟨w.heap.size, 0, none⟩) 1 1)) (w.alloc (.cells y.cells.toArray 44))) : wpList Try.prog ops Q (o :: rest) a w := by
  obtain ⟨i0, hi0, hz0, hz1, hz2⟩ := info_parts info_opt
  refine wpList_buildSlice hg 25 44 1 #[(0, s)] ho y.cells.toArray i0 _ Try.underlying25 hi0 hz0 (by rw [hz1]; decide) (by rw [hz1]; decide) ?_ h
  have h1 : (#[(0, s)].map fun (i, x) => (i, a.eval x)).toList = ([Value.agg y.cells.toArray].zipIdx 0).map fun x => (x.2, x.1) := by simp [hs]
  rw [h1, hz1]
  have h2 := Great.fill_whole (s := 18) (by decide) [Value.agg y.cells.toArray] ((Array.range (1 * 18)).map fun x => (Value.agg noOp.toArray).cells[x % (Value.agg noOp.toArray).cells.size]!) (fun v hv => by rw [List.mem_singleton.1 hv]; rfl) (by simp)
  refine h2.trans ?_
  simp [Value.cells]
theorem append_op {ops : Array Oper} {rest : List Oper} {o : Oper} {a : Act} {w : World} {Q : Exit → Act → World → Prop} (hgd : o.guard = none) (s x : Operand) (ho : o.op = .call { callee := .builtin .append, args := #[s, x], argTypes := #[25, 25] })
    (B : Nat) (v : Value) (n : Nat) (xs : List Value) (hs : a.eval s = v) (hown : w.ownsRow B 44 18 v n xs) (b : Nat) (y : OpR) (hx : a.eval x = .slice (some ⟨b, 0, none⟩) 1 1) (hc : w.heap[b]? = some (.cells y.cells.toArray 44 (0, 0))) (hn : n ≤ 200) (hB : B ≤ w.heap.size)
    (h : ∀ v' w', w'.ownsRow B 44 18 v' (n + 1) (xs ++ y.cells) → w.grownBy w' v.ownBlock → wpList Try.prog ops Q rest (a.put o.dst v') w') : wpList Try.prog ops Q (o :: rest) a w := by
  obtain ⟨i0, hi0, hz0, hz1, hz2⟩ := info_parts info_opt
  refine wpList_append_own _ hgd s x 25 ho B 44 i0 _ 18 192 Try.underlying25 hi0 hz0 hz1 hz2 rfl (by decide) v n xs hs hown ⟨b, 0, none⟩ 1 1 y.cells hx rfl ?_ (cells_each y) (by unfold maxLen; omega) (by omega) hB ?_
  · intro j u hu
    rw [add_none, Nat.zero_add, cell_of_row w b j _ 44 (0, 0) hc]
    simpa using hu
  · intro v' w' h1 h2 _
    exact h v' w' h1 h2
/-- What the taking of operations tells. -/
def TOpsE (r : Nat) (s : List UInt8) (bad : Bool) (w : World) (e : Ending) (w' : World) : Prop :=
  ∃ (v : Value) (l : List OpR) (s' : List UInt8) (bad' : Bool), e = .returned v ∧ w'.ownsRow w.heap.size 44 18 v l.length (l.flatMap OpR.cells) ∧ (∀ x ∈ l, OpGood w' w.heap.size x) ∧ l.length ≤ 200 ∧ Rdr w' r s' bad' ∧ RP (pListM 200 pOpX) s bad (l.map OpR.o) s' bad' ∧ Only r w w'

set_option maxRecDepth 100000 in
set_option maxHeartbeats 16000000 in
theorem rops_any (r : Nat) (s : List UInt8) (bad : Bool) (hz : s.length ≤ 1000000) (w : World) (hr : Rdr w r s bad) :
    Calls Try.prog 28 #[.pointer (some ⟨r, 0, none⟩), .int .i64 200, .func (.func 29) #[.pointer (some ⟨r, 0, none⟩)] #[]] w (TOpsE r s bad w) := by
  obtain ⟨i0, hi0, hz0, hz1, hz2⟩ := info_parts info_opt
  have HR := Lib.hid hr
  have HZ := Lib.hid hz
  have HLT := Lib.hid hr.lt
  clear hr hz
  go_enter Try.func28, Try.ntmps28
  go_wp2_with fail
  refine (rnat_any r s bad HZ.out _ HR.out).mono ?_
  rintro e w1 ⟨n, s1, b1, rfl, hn, hr1, hp1, ho1⟩
  have HN := Lib.hid hn
  have HP1 := Lib.hid hp1
  have HO1 := Lib.hid ho1
  have HR1 := Lib.hid hr1
  obtain ⟨ok, hok⟩ : ∃ ok, decide (n ≤ (200 : Int)) = ok := ⟨_, rfl⟩
  clear hn hp1 ho1 hr1
  go_wp2_with fail
  refine (hold_any r s1 b1 ok _ HR1.out).mono ?_
  rintro e w2 ⟨rfl, hr2, ho2⟩
  have HOK := Lib.hid hok
  obtain ⟨b2, hb2⟩ : ∃ b2, (b1 || !ok) = b2 := ⟨_, rfl⟩
  rw [hb2] at hr2
  have HB2 : Hid ((b1 || !decide (n ≤ ((200 : Nat) : Int))) = b2) := by
    show _ = _
    rw [show ((200 : Nat) : Int) = 200 from rfl, HOK.out]
    exact hb2
  have HR2 := Lib.hid hr2
  have HO2 := Lib.hid (HO1.out.trans ho2)
  have R0 : Hid (w2.ownsRow w.heap.size 44 18 (.slice none 0 0) 0 ([] : List Value) ∧ (b2 = false → Run pOpX n.toNat s1 0 [] s1 b2)) := ⟨World.ownsRow_nil _ _ _ _, fun h => by rw [h]; exact Run.start _ _ _⟩
  clear hr2 ho2 hok hb2
  go_wp2
  go_loopw [8, 9] (fun lv iv wr => ∃ (k : Nat) (acc : List OpR) (sk : List UInt8) (bk : Bool), iv = .int .i64 (k : Int) ∧ (k : Int) ≤ n ∧ acc.length = k ∧ k ≤ 200 ∧ wr.ownsRow w.heap.size 44 18 lv k (acc.flatMap OpR.cells) ∧ (∀ x ∈ acc, OpGood wr w.heap.size x) ∧ Hid (Rdr wr r sk bk) ∧ sk.length ≤ s1.length ∧ Hid (b2 = false → Run pOpX n.toNat s1 k (acc.map OpR.o) sk bk) ∧ Hid (b2 = true → bk = true) ∧ Hid (Only r w wr)) (fun _ iv _ => n.toNat - (intOf iv).toNat)
  case atStart => exact ⟨0, [], s1, b2, rfl, HN.out.1, rfl, by omega, R0.out.1, by simp, HR2.out, Nat.le_refl _, R0.out.2, fun h => h, HO2.out⟩
  case round =>
    obtain ⟨k, acc, sk, bk, rfl, hkn, hkl, hkm, hown, hD, HRK, hsk, HRUN, HBK, HOK2⟩ := hrel
    clear R0
    obtain ⟨q0, q1⟩ := HRK.out.cells
    by_cases hlt : (k : Int) < n
    · have hd1 : decide ((k : Int) < n) = true := decide_eq_true hlt
      cases bk
      · have hb2f : b2 = false := by
          cases h : b2 with
          | false => rfl
          | true => exact (HBK.out h).symm ▸ rfl
        have HB2F := Lib.hid hb2f
        have HOWN := Lib.hid hown
        have HKL := Lib.hid hkl
        have HDD := Lib.hid hD
        have hnm : n ≤ (200 : Int) := by
          have h1 := HB2.out
          rw [hb2f, Bool.or_eq_false_iff] at h1
          have h2 := h1.2
          simpa using h2
        clear hb2f hown hkl hD q0
        go_wp2_with fail
        refine (rop_any r sk false (Nat.le_trans hsk (Nat.le_trans HP1.out.2.2 HZ.out)) _ HRK.out).mono ?_
        rintro e w3 ⟨x, s3, b3, rfl, hx, hr3, hp3, ho3⟩
        have HP3 := Lib.hid hp3
        have hszr : w.heap.size ≤ wr.heap.size := HOK2.out.size
        have hsz3 : w.heap.size ≤ w3.heap.size := Nat.le_trans hszr ho3.size
        have hown3 := (own_only HOWN.out ho3 HLT.out).alloc (.cells x.cells.toArray 44)
        have hr3b := hr3.keep (below_box (.cells x.cells.toArray 44))
        have ho3b := (HOK2.out.trans ho3).alloc (.cells x.cells.toArray 44)
        have hx3 := (hx.mono hszr).below (below_box (.cells x.cells.toArray 44))
        have hd3 : ∀ y ∈ acc, OpGood (w3.alloc (.cells x.cells.toArray 44)) w.heap.size y := fun y hy => ((HDD.out y hy).only ho3 HLT.out).below (below_box (.cells x.cells.toArray 44))
        have hc3 := heap_alloc_new w3 (.cells x.cells.toArray 44)
        have hsz4 : w.heap.size ≤ (w3.alloc (.cells x.cells.toArray 44)).heap.size := Nat.le_trans hsz3 (below_box (.cells x.cells.toArray 44)).size
        obtain ⟨W4, hW4⟩ : ∃ W4, w3.alloc (.cells x.cells.toArray 44) = W4 := ⟨_, rfl⟩
        rw [hW4] at hown3 hr3b ho3b hx3 hd3 hc3 hsz4
        have HOWN3 := Lib.hid hown3
        have HR3 := Lib.hid hr3b
        have HO3 := Lib.hid ho3b
        have HX3 := Lib.hid hx3
        have HD3 := Lib.hid hd3
        have HC3 := Lib.hid hc3
        have HS4 := Lib.hid hsz4
        have HW4 := Lib.hid hW4
        clear hx hp3 hr3 ho3 q1 hown3 hr3b ho3b hx3 hd3 hc3 hsz4 hW4 hsz3
        go_wp2_with (first | (refine build_op rfl (.tmp 31) rfl x rfl ?_; rw [HW4.out]) | (refine append_op rfl (.tmp 29) (.tmp 32) rfl w.heap.size _ k _ rfl HOWN3.out w3.heap.size x rfl HC3.out hkm HS4.out ?_; intro v4 w4 hown4 hg4))
        have hgo : ∀ q, Value.ownBlock _ = some q → w.heap.size ≤ q := fun q hq => (HOWN3.out.lt q hq).1
        have HO4 := Lib.hid (only_grown (B := 0) HO3.out hg4 hgo)
        have HR4 : Hid (Rdr w4 r s3 b3) := (hg4.block r HR3.out.lt (fun e => by have := hgo r e.symm; have := HLT.out; omega)).trans HR3.out
        have HOWN4 : Hid (w4.ownsRow w.heap.size 44 18 v4 (k + 1) ((acc ++ [x]).flatMap OpR.cells)) := by
          show World.ownsRow _ _ _ _ _ _ _
          rw [List.flatMap_append]
          simp only [List.flatMap_cons, List.flatMap_nil, List.append_nil]
          exact hown4
        have HRUN4 : Hid (b2 = false → Run pOpX n.toNat s1 (k + 1) ((acc ++ [x]).map OpR.o) s3 b3) := fun h => by
          have h2 := (HRUN.out h).step (show k < n.toNat by have := HN.out.1; omega) HP3.out
          rw [List.map_append]
          exact h2
        have hs3 : s3.length ≤ s1.length := Nat.le_trans HP3.out.2.2 hsk
        have HDN : Hid (∀ y ∈ acc ++ [x], OpGood w4 w.heap.size y) := fun y hy => by
          rcases List.mem_append.1 hy with h | h
          · exact (HD3.out y h).grown HOWN3.out hg4
          · rw [List.mem_singleton.1 h]; exact HX3.out.grown HOWN3.out hg4
        have HKL4 : Hid ((acc ++ [x]).length = k + 1) := by show _ = _; rw [List.length_append, HKL.out]; rfl
        have HBK4 : Hid (b2 = true → b3 = true) := fun h => by rw [HB2F.out] at h; cases h
        clear hown4 hg4 hgo HOWN3 HX3 HD3 HR3 HO3 HC3 HS4
        go_wp2
        go_roundw
        case rel => exact ⟨k + 1, acc ++ [x], s3, b3, by go_num, by omega, HKL4.out, by omega, HOWN4.out, HDN.out, HR4, hs3, HRUN4, HBK4, HO4⟩
        case measure => simp [intOf]; omega
      · have HOWN := Lib.hid hown
        have HKL := Lib.hid hkl
        have HDD := Lib.hid hD
        clear hown hkl hD q0
        go_wp2
        go_ret
        refine ⟨_, acc, sk, true, rfl, by rw [HKL.out]; exact HOWN.out, HDD.out, by rw [HKL.out]; exact hkm, HRK.out, Run.done (k := k) HN.out HP1.out hsk (fun h => ⟨HRUN.out (by rw [← HB2.out]; exact h), fun h2 => nomatch h2⟩) (fun _ => rfl), HOK2.out⟩
    · have hd1 : decide ((k : Int) < n) = false := decide_eq_false hlt
      have HOWN := Lib.hid hown
      have HKL := Lib.hid hkl
      have HDD := Lib.hid hD
      have hkn2 : k = n.toNat := by omega
      have HKN := Lib.hid hkn2
      clear hown hkl hD q0 q1 hkn2
      go_wp2
      go_ret
      refine ⟨_, acc, sk, bk, rfl, by rw [HKL.out]; exact HOWN.out, HDD.out, by rw [HKL.out]; exact hkm, HRK.out, Run.done (k := k) HN.out HP1.out hsk (fun h => ⟨HRUN.out (by rw [← HB2.out]; exact h), fun _ => HKN.out⟩) (fun h => HBK.out (by rw [← HB2.out]; exact h)), HOK2.out⟩

end Go.Proofs.Ytphnimmhjnhajaa.W8

