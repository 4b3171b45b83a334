/-
  Layer 7, walks: the document's Split.
-/
import Derived.Test.YthecofkkacieaaaDoorP7e
namespace Go.Proofs.YthecofkkacieaaaDoor.P7
open Go.RowKit Go.PlainAid M7
open S5 (Env ts)
set_option linter.unusedVariables false

theorem drop_at {p : List UInt8} {f k : Nat} (hf : f ≤ k) (hk : k < p.length) : p.drop f = (p.drop f).take (k - f) ++ p[k] :: p.drop (k + 1) := by
  have h1 : p.drop f = (p.drop f).take (k - f) ++ (p.drop f).drop (k - f) := (List.take_append_drop _ _).symm
  rw [List.drop_drop, show f + (k - f) = k by omega, List.drop_eq_getElem_cons hk] at h1
  exact h1
theorem none_in {p : List UInt8} {f k : Nat} (hk : k ≤ p.length) (h : ∀ j (hj : j < p.length), f ≤ j → j < k → p[j] ≠ 47) : (47 : UInt8) ∉ (p.drop f).take (k - f) := fun hm => by
  obtain ⟨j, hj, hj2⟩ := List.getElem_of_mem hm
  rw [List.length_take, List.length_drop] at hj
  rw [List.getElem_take, List.getElem_drop] at hj2
  exact h (f + j) (by omega) (by omega) (by omega) hj2
theorem cut_next {p : List UInt8} {f k : Nat} (hf : f ≤ k) (hk : k < p.length) (h : ∀ j (hj : j < p.length), f ≤ j → j < k → p[j] ≠ 47) (hx : p[k] = 47) :
    cutB 47 (p.drop f) = some ((p.drop f).take (k - f), p.drop (k + 1)) := by
  have h1 := drop_at hf hk
  rw [hx] at h1
  conv => lhs; rw [h1]
  exact cutB_app _ _ (none_in (by omega) h)
theorem cut_last {p : List UInt8} {f : Nat} (hf : f ≤ p.length) (h : ∀ j (hj : j < p.length), f ≤ j → j < p.length → p[j] ≠ 47) : cutB 47 (p.drop f) = none := by
  have := none_in (f := f) (Nat.le_refl p.length) h
  rw [List.take_of_length_le (by rw [List.length_drop]; omega)] at this
  exact cutB_not _ this

/-- Where the document's loop stands. -/
def Pos (p r : List UInt8) (k f : Nat) (pre : List (List UInt8)) : Prop :=
  1 ≤ f ∧ ((k ≤ p.length ∧ f ≤ k ∧ pieces r = pre ++ pieces (p.drop f) ∧ ∀ j (hj : j < p.length), f ≤ j → j < k → p[j] ≠ 47) ∨ (k = p.length + 1 ∧ pieces r = pre))
theorem Pos.skip {p r : List UInt8} {k f : Nat} {pre : List (List UInt8)} (h : Pos p r k f pre) (hk : k < p.length) (hx : p[k] ≠ 47) : Pos p r (k + 1) f pre := by
  obtain ⟨h1, (⟨h2, h3, h4, h5⟩ | ⟨h2, _⟩)⟩ := h
  · refine ⟨h1, .inl ⟨by omega, by omega, h4, fun j hj hf hlt => ?_⟩⟩
    by_cases h6 : j < k
    · exact h5 j hj hf h6
    · obtain rfl : j = k := by omega
      exact hx
  · omega
theorem Pos.piece {p r : List UInt8} {k f : Nat} {pre : List (List UInt8)} (h : Pos p r k f pre) (hk : k ≤ p.length) (hx : ∀ (hk : k < p.length), p[k] = 47) :
    Pos p r (k + 1) (k + 1) (pre ++ [(p.drop f).take (k - f)]) ∧ f ≤ k := by
  obtain ⟨h1, (⟨h2, h3, h4, h5⟩ | ⟨h2, _⟩)⟩ := h
  · refine ⟨⟨by omega, ?_⟩, h3⟩
    by_cases hlt : k < p.length
    · refine .inl ⟨hlt, Nat.le_refl _, ?_, fun j hj hf hlt => by omega⟩
      rw [h4, pieces_some (cut_next h3 hlt h5 (hx hlt))]; simp
    · obtain rfl : k = p.length := by omega
      refine .inr ⟨rfl, ?_⟩
      rw [h4, pieces_none (cut_last h3 h5), List.take_of_length_le (by rw [List.length_drop]; omega)]
  · omega
theorem Pos.len {p r : List UInt8} {k f : Nat} {pre : List (List UInt8)} (h : Pos p r k f pre) : pre.length ≤ r.length + 1 := by
  have hl := pieces_len r
  obtain ⟨h1, (⟨h2, h3, h4, h5⟩ | ⟨h2, h3⟩)⟩ := h
  · rw [h4, List.length_append] at hl; omega
  · rw [← h3]; exact hl
theorem Pos.mem {p r x : List UInt8} {k f : Nat} {pre : List (List UInt8)} (h : Pos p r k f (pre ++ [x])) : x ∈ pieces r := by
  obtain ⟨h1, (⟨h2, h3, h4, h5⟩ | ⟨h2, h3⟩)⟩ := h
  · rw [h4]; simp
  · rw [h3]; simp
theorem Pos.bound {p r : List UInt8} {k f : Nat} {pre : List (List UInt8)} (h : Pos p r k f pre) : k ≤ p.length + 1 := by
  obtain ⟨h1, (⟨h2, h3, h4, h5⟩ | ⟨h2, h3⟩)⟩ := h <;> omega
theorem Pos.last {p r : List UInt8} {k f : Nat} {pre : List (List UInt8)} (h : Pos p r k f pre) (hk : ¬ k ≤ p.length) : pieces r = pre := by
  obtain ⟨h1, (⟨h2, h3, h4, h5⟩ | ⟨h2, h3⟩)⟩ := h
  · omega
  · exact h3
theorem refSeen_as {l : List UInt8} {b : Bool} (h : seenB l = b) (hz : l.length ≤ 140737488351232) (w : World) :
    Calls Tryd.prog 13 #[.string (bs l)] w fun e w' => e = .returned (.bool b) ∧ Below w.heap.size w w' := by
  have := refSeen_any l hz w
  rw [h] at this
  exact this
theorem ext_mid (p : List UInt8) (f k : Nat) : (bs p).extract f k = bs ((p.drop f).take (k - f)) := bs_ext (by rw [ext_list]; rfl)

set_option maxRecDepth 100000 in
set_option maxHeartbeats 400000 in
theorem refSplit_root (w : World) :
    Calls Tryd.prog 15 #[.string (bs [47])] w (SplitE [] 0 w) := by
  have hq : ((bs [47]).toList == [47]) = true := by rw [bs_toList]; rfl
  go_enter Tryd.func15, Tryd.ntmps15
  go_wp2
  go_ret2
  exact ⟨none, 0, rfl, .inl rfl, Below.refl _ _, Nat.le_refl _⟩

set_option maxRecDepth 100000 in
set_option maxHeartbeats 400000 in
theorem refSplit_none (w : World) :
    Calls Tryd.prog 15 #[.string (bs [])] w (SplitE [] 71 w) := by
  have hq : ((bs []).toList == [47]) = false := by rw [bs_toList]; rfl
  have hq2 : (bs []).toList.isEmpty = true := by rw [bs_toList]; rfl
  go_enter Tryd.func15, Tryd.ntmps15
  go_wp2
  go_ret2
  exact ⟨none, 0, rfl, .inl rfl, Below.refl _ _, Nat.le_refl _⟩

set_option maxRecDepth 100000 in
set_option maxHeartbeats 400000 in
theorem refSplit_no {c : UInt8} {r : List UInt8} (h : c ≠ 47) (w : World) :
    Calls Tryd.prog 15 #[.string (bs (c :: r))] w (SplitE [] 71 w) := by
  have hq : ((bs (c :: r)).toList == [47]) = false := by
    rw [bs_toList, beq_eq_false_iff_ne]
    intro e; injection e with e _; exact h e
  have hq2 : (bs (c :: r)).toList.isEmpty = false := by rw [bs_toList]; rfl
  have hbt := bt_bs (c :: r) 0 (by simp)
  have hgb := get_bt (bs (c :: r))
  have h0 : 0 < (bs (c :: r)).size := by rw [bs_size]; simp
  have hne : (bt (bs (c :: r)) 0 != (47 : Int)) = true := by
    rw [hbt, bne_iff_ne]
    intro e
    exact h (UInt8.toNat_inj.1 (by rw [show (47 : UInt8).toNat = 47 from rfl]; simp at e; omega))
  clear hbt
  go_enter Tryd.func15, Tryd.ntmps15
  go_wp2
  go_ret2
  exact ⟨none, 0, rfl, .inl rfl, Below.refl _ _, Nat.le_refl _⟩

theorem fin_wrong {p r y : List UInt8} {l : List (List UInt8)} {x : Int} (hp : p = 47 :: r) (h0 : r ≠ []) (hsp : splitP p = (l, x)) (hy : y ∈ pieces r) (hs : seenB y = false) : l = [] ∧ x = 70 := by
  have h := splitP_wrong h0 (List.all_eq_false.2 ⟨y, hy, by rw [hs]; simp⟩)
  rw [← hp, hsp] at h
  injection h with h1 h2
  exact ⟨h1, h2⟩
theorem fin_last {p r : List UInt8} {pre l : List (List UInt8)} {x : Int} (hp : p = 47 :: r) (h0 : r ≠ []) (hsp : splitP p = (l, x)) (hpre : pieces r = pre) (hs : ∀ y ∈ pre, seenB y = true) :
    (pre.length ≤ 20 ∧ l = pre ∧ x = 0) ∨ (20 < pre.length ∧ l = [] ∧ x = 2) := by
  subst hpre
  by_cases h : 20 < (pieces r).length
  · have h2 := splitP_long h0 (List.all_eq_true.2 hs) h
    rw [← hp, hsp] at h2
    injection h2 with h3 h4
    exact .inr ⟨h, h3, h4⟩
  · have h2 := splitP_ok h0 (List.all_eq_true.2 hs) (by omega)
    rw [← hp, hsp] at h2
    injection h2 with h3 h4
    exact .inl ⟨by omega, h3, h4⟩

set_option maxRecDepth 100000 in
set_option maxHeartbeats 2000000 in
theorem refSplit_main {p r : List UInt8} (hp : p = 47 :: r) (h0 : r ≠ []) (hz : p.length ≤ 1000000) (w : World) {l : List (List UInt8)} {x : Int} (hsp : splitP p = (l, x)) :
    Calls Tryd.prog 15 #[.string (bs p)] w (SplitE l x w) := by
  have hq : ((bs p).toList == [47]) = false := by
    rw [bs_toList, beq_eq_false_iff_ne, hp]
    intro e; injection e with _ e; exact h0 e
  have hq2 : (bs p).toList.isEmpty = false := by rw [bs_toList, hp]; rfl
  have hpl : p.length = r.length + 1 := by rw [hp]; simp
  have hbt := bt_bs p 0 (by omega)
  have hgb := get_bt (bs p)
  have hsz := bs_size p
  have hp0 : 0 < (bs p).size := by rw [bs_size]; omega
  have hne : (bt (bs p) 0 != (47 : Int)) = false := by rw [hbt]; simp [hp]
  have hpos : Pos p r 1 1 [] := by
    refine ⟨Nat.le_refl _, .inl ⟨by omega, Nat.le_refl _, ?_, fun j hj h1 h2 => by omega⟩⟩
    rw [hp]; rfl
  have HSP := Lib.hid hsp
  have HP := Lib.hid hp
  have HPOS := Lib.hid hpos
  have HPL := Lib.hid (show p.length ≤ r.length + 1 ∧ r.length + 1 ≤ p.length by omega)
  obtain ⟨i0, hi0, hz0, hz1, hz2⟩ := info_parts S5.info_str
  clear hbt hsp hp hpos hpl
  go_enter Tryd.func15, Tryd.ntmps15
  go_wp2
  clear hq hq2 hne
  go_loopw [4, 5, 6] (fun v fv iv wr => ∃ (k f : Nat) (pre : List (List UInt8)), iv = .int .i64 (k : Int) ∧ fv = .int .i64 (f : Int) ∧ wr.ownsRow w.heap.size 9 1 v pre.length (ts pre) ∧ (∀ y ∈ pre, seenB y = true) ∧ Below w.heap.size w wr ∧ Pos p r k f pre)
    (fun _ _ iv _ => p.length + 1 - (intOf iv).toNat)
  case atStart => exact ⟨1, 1, [], rfl, rfl, World.ownsRow_nil _ _ _ _, by simp, Below.refl _ _, HPOS.out⟩
  case round =>
    obtain ⟨k, f, pre, rfl, rfl, hown, hs, hb, hps⟩ := hrel
    have hkb := hps.bound
    have hle := hps.len
    obtain ⟨hpl1, hpl2⟩ := HPL.out
    by_cases hk : k ≤ p.length
    · have HPS := Lib.hid hps
      by_cases hx : ∀ (hk : k < p.length), p[k] = 47
      · obtain ⟨hps1, hfk⟩ := hps.piece hk hx
        have hmem := pieces_mem hps1.mem
        have e1 := ext_mid p f k
        generalize hy : (p.drop f).take (k - f) = y at *
        clear hy
        have HPS1 := Lib.hid hps1
        have HXX := Lib.hid hx
        clear hps hps1 hx
        by_cases hlt : k < p.length
        · have hq : ((k : Int) == (p.length : Int)) = false := by simp; omega
          have hbq : (bt (bs p) k == (47 : Int)) = true := by rw [bt_bs p k hlt, HXX.out hlt]; rfl
          cases hse : seenB y
          · have HS := Lib.hid hse
            clear hse
            go_wp2_with fail
            refine (refSeen_as HS.out (by omega) _).mono ?_
            rintro e w1 ⟨rfl, hb1⟩
            obtain ⟨q1, q2⟩ := fin_wrong HP.out h0 HSP.out HPS1.out.mem HS.out
            go_wp2
            go_ret2
            subst q1
            subst q2
            exact ⟨none, 0, rfl, .inl rfl, hb.trans (hb1.mono hb.size), Nat.le_refl _⟩
          · have HS := Lib.hid hse
            clear hse
            go_wp2_with fail
            refine (refSeen_as HS.out (by omega) _).mono ?_
            rintro e w1 ⟨rfl, hb1⟩
            have hown1 := own_keep hown hb1
            have hb2 := hb.trans (hb1.mono hb.size)
            go_wp2_with (at_builtin; refine wpList_append_own _ rfl (.tmp 38) (.tmp 43) 32 rfl w.heap.size 9 i0 (.string ByteArray.empty) 1 16 Tryd.underlying32 hi0 hz0 hz1 hz2 rfl (by decide) _ _ _ rfl (hown1.alloc _) ⟨w1.heap.size, 0, none⟩ 1 1 _ rfl rfl (cell_one_new _ _ _) (by simp [Value.oneCell']) (by unfold maxLen; omega) (by omega) (by have := hb2.size; simp; omega) ?_; intro v1 w2 hown2 hg1 _)
            go_wp2
            go_roundw
            case rel =>
              refine ⟨k + 1, k + 1, pre ++ [y], by go_num, by go_num, ?_, ?_, (hb2.alloc hb2.size _).grown hg1 (by have := hb2.size; simp; omega) (fun q hq => (hown1.lt q hq).1), HPS1.out⟩
              · rw [S5.ts_append, List.length_append]; exact hown2
              · exact fun z hz => (List.mem_append.1 hz).elim (hs z) (fun e => by rw [List.mem_singleton.1 e]; exact HS.out)
            case measure => simp [intOf]; omega
        · have hq : ((k : Int) == (p.length : Int)) = true := by simp; omega
          have hkl : (bs p).size ≤ k := by rw [bs_size]; omega
          cases hse : seenB y
          · have HS := Lib.hid hse
            clear hse
            go_wp2_with fail
            refine (refSeen_as HS.out (by omega) _).mono ?_
            rintro e w1 ⟨rfl, hb1⟩
            obtain ⟨q1, q2⟩ := fin_wrong HP.out h0 HSP.out HPS1.out.mem HS.out
            go_wp2
            go_ret2
            subst q1
            subst q2
            exact ⟨none, 0, rfl, .inl rfl, hb.trans (hb1.mono hb.size), Nat.le_refl _⟩
          · have HS := Lib.hid hse
            clear hse
            go_wp2_with fail
            refine (refSeen_as HS.out (by omega) _).mono ?_
            rintro e w1 ⟨rfl, hb1⟩
            have hown1 := own_keep hown hb1
            have hb2 := hb.trans (hb1.mono hb.size)
            go_wp2_with (at_builtin; refine wpList_append_own _ rfl (.tmp 38) (.tmp 43) 32 rfl w.heap.size 9 i0 (.string ByteArray.empty) 1 16 Tryd.underlying32 hi0 hz0 hz1 hz2 rfl (by decide) _ _ _ rfl (hown1.alloc _) ⟨w1.heap.size, 0, none⟩ 1 1 _ rfl rfl (cell_one_new _ _ _) (by simp [Value.oneCell']) (by unfold maxLen; omega) (by omega) (by have := hb2.size; simp; omega) ?_; intro v1 w2 hown2 hg1 _)
            go_wp2
            go_roundw
            case rel =>
              refine ⟨k + 1, k + 1, pre ++ [y], by go_num, by go_num, ?_, ?_, (hb2.alloc hb2.size _).grown hg1 (by have := hb2.size; simp; omega) (fun q hq => (hown1.lt q hq).1), HPS1.out⟩
              · rw [S5.ts_append, List.length_append]; exact hown2
              · exact fun z hz => (List.mem_append.1 hz).elim (hs z) (fun e => by rw [List.mem_singleton.1 e]; exact HS.out)
            case measure => simp [intOf]; omega
      · have hlt : k < p.length := by
          by_cases h : k < p.length
          · exact h
          · exact absurd (fun hk => absurd hk h) hx
        have hxk : p[k] ≠ 47 := fun e => hx (fun _ => e)
        have HPS1 := Lib.hid (hps.skip hlt hxk)
        have hq : ((k : Int) == (p.length : Int)) = false := by clear hxk hx; simp; omega
        have hbq : (bt (bs p) k == (47 : Int)) = false := by
          rw [bt_bs p k hlt, beq_eq_false_iff_ne]
          intro e
          exact hxk (UInt8.toNat_inj.1 (by rw [show (47 : UInt8).toNat = 47 from rfl]; omega))
        clear hps hx hxk
        go_wp2
        go_roundw
        case rel => exact ⟨k + 1, f, pre, by go_num, rfl, hown, hs, hb, HPS1.out⟩
        case measure => simp [intOf]; omega
    · have hlast := hps.last hk
      have hfin := fin_last HP.out h0 HSP.out hlast hs
      obtain ⟨A, c, rfl, hrd, hln⟩ := Rd.of_own hown
      clear hlast hln hps
      rcases hfin with ⟨h20, q1, q2⟩ | ⟨h20, q1, q2⟩
      · subst q1
        subst q2
        have HRD := Lib.hid hrd
        clear hrd
        go_wp2
        go_ret2
        exact ⟨A, c, rfl, HRD.out, hb, own_cap hown⟩
      · subst q1
        subst q2
        go_wp2
        go_ret2
        exact ⟨none, 0, rfl, .inl rfl, hb, Nat.le_refl _⟩

theorem refSplit_any (p : List UInt8) (hz : p.length ≤ 1000000) (w : World) {l : List (List UInt8)} {x : Int} (hsp : splitP p = (l, x)) :
    Calls Tryd.prog 15 #[.string (bs p)] w (SplitE l x w) := by
  by_cases h1 : p = [47]
  · subst h1
    rw [splitP_one] at hsp
    injection hsp with q1 q2
    subst q1; subst q2
    exact refSplit_root w
  · cases p with
    | nil =>
      rw [splitP_nil] at hsp
      injection hsp with q1 q2
      subst q1; subst q2
      exact refSplit_none w
    | cons c r =>
      by_cases hc : c = 47
      · subst hc
        exact refSplit_main rfl (fun e => h1 (by rw [e])) hz w hsp
      · rw [splitP_not hc] at hsp
        injection hsp with q1 q2
        subst q1; subst q2
        exact refSplit_no hc w

end Go.Proofs.YthecofkkacieaaaDoor.P7
