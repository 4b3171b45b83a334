/-
  Layer 4, walks: the order of a list's places, as the document's answer has it; lists of places compared.
-/
import Derived.Test.YtcpacgflljmlaaaG4i
namespace Go.Proofs.Ytcpacgflljmlaaa.G4
open Go.RowKit Go.PlainAid
set_option linter.unusedVariables false

theorem snoc_or {β : Type} (l : List β) : l = [] ∨ ∃ p q, l = p ++ [q] := by
  by_cases h : l = []
  · exact .inl h
  · exact .inr ⟨l.dropLast, l.getLast h, (List.dropLast_concat_getLast h).symm⟩
/-- One place put among those that are in order, k of them ahead of it so far. -/
def InsP (l o : List Nat) (i k : Nat) (out : List Nat) : Prop := ∃ o1 o2, o = o1 ++ o2 ∧ out = o1 ++ i :: o2 ∧ o1.length = k ∧ ∀ x ∈ o2, kk l i < kk l x
/-- The places so far. -/
def OrdTo (l : List Nat) (i : Nat) (o : List Nat) : Prop := o.Perm (List.range i) ∧ o.Pairwise (leP l)
theorem OrdTo.lt {l o : List Nat} {i x : Nat} (h : OrdTo l i o) (hx : x ∈ o) : x < i := by simpa using h.1.mem_iff.1 hx
theorem OrdTo.len {l o : List Nat} {i : Nat} (h : OrdTo l i o) : o.length = i := by have := h.1.length_eq; simpa using this
theorem InsP.first {l o : List Nat} {i : Nat} (h : o.length = i) : InsP l o i i (o ++ [i]) := ⟨o, [], by simp, rfl, h, by simp⟩
theorem InsP.len {l o out : List Nat} {i k : Nat} (h : InsP l o i k out) : out.length = o.length + 1 := by
  obtain ⟨o1, o2, rfl, rfl, _, _⟩ := h; simp; omega
theorem InsP.le {l o out : List Nat} {i k : Nat} (h : InsP l o i k out) : k ≤ o.length := by
  obtain ⟨o1, o2, rfl, rfl, rfl, _⟩ := h; simp
theorem InsP.at {l o out : List Nat} {i k : Nat} (h : InsP l o i k out) (hk : k < out.length) : out[k] = i := by
  obtain ⟨o1, o2, rfl, rfl, rfl, _⟩ := h; simp
theorem InsP.step {l o out : List Nat} {i k : Nat} (h : InsP l o i (k + 1) out) (hk : k < out.length) (hlt : kk l i < kk l out[k]) : InsP l o i k ((out.set (k + 1) out[k]).set k i) := by
  obtain ⟨o1, o2, rfl, rfl, hl, h2⟩ := h
  obtain ⟨p, q, rfl⟩ : ∃ p q, o1 = p ++ [q] := (snoc_or o1).resolve_left (by intro e; rw [e] at hl; simp at hl)
  have hp : p.length = k := by simp at hl; exact hl
  subst hp
  have e : (p ++ [q] ++ i :: o2)[p.length] = q := by simp
  rw [e] at hlt ⊢
  refine ⟨p, q :: o2, by simp, ?_, rfl, fun x hx => ?_⟩
  · rw [List.append_assoc, List.set_append_right _ _ (by omega), List.set_append_right _ _ (by omega)]
    simp
  · rcases List.mem_cons.1 hx with rfl | hx
    · exact hlt
    · exact h2 x hx
theorem InsP.done {l o out : List Nat} {i k : Nat} (h : InsP l o i k out) (ho : OrdTo l i o) (hs : ∀ (h0 : 0 < k) (hk : k - 1 < out.length), kk l out[k - 1] ≤ kk l i) : OrdTo l (i + 1) out := by
  have hlt := fun x => ho.lt (x := x)
  obtain ⟨o1, o2, rfl, rfl, rfl, h2⟩ := h
  have h1 : ∀ x ∈ o1, kk l x ≤ kk l i := by
    intro x hx
    rcases snoc_or o1 with rfl | ⟨p, q, rfl⟩
    · simp at hx
    · have h3 := hs (by simp) (by simp)
      have e : (p ++ [q] ++ i :: o2)[(p ++ [q]).length - 1]'(by simp) = q := by simp
      have h4 : kk l q ≤ kk l i := by
        simp at h3; exact h3
      rcases List.mem_append.1 hx with hx | hx
      · have h5 := ho.2
        rw [List.append_assoc, List.pairwise_append] at h5
        have := h5.2.2 x hx q (by simp)
        unfold leP at this
        omega
      · simp at hx; subst hx; exact h4
  constructor
  · have h6 : (o1 ++ i :: o2).Perm (i :: (o1 ++ o2)) := List.perm_middle
    refine h6.trans ?_
    rw [List.range_succ]
    exact (ho.1.cons i).trans (List.perm_append_singleton i (List.range i)).symm
  · have h5 := ho.2
    rw [List.pairwise_append] at h5 ⊢
    refine ⟨h5.1, List.pairwise_cons.2 ⟨fun x hx => .inl (h2 x hx), h5.2.1⟩, fun x hx y hy => ?_⟩
    rcases List.mem_cons.1 hy with rfl | hy
    · have := h1 x hx
      have := hlt x (List.mem_append.2 (.inl hx))
      unfold leP; omega
    · exact h5.2.2 x hx y hy

/-- Two cells of a row of the call's own, exchanged. -/
theorem exch_own {w : World} {B n c g : Nat} {e : TypeId} {xs : List Value} (h : w.ownsRow B e 1 (.slice (some ⟨g, 0, none⟩) n c) n xs) (i j : Nat) (u v : Value) :
    ((w.setCell ⟨g, i, none⟩ u).setCell ⟨g, j, none⟩ v).drew.ownsRow B e 1 (.slice (some ⟨g, 0, none⟩) n c) n ((xs.set i u).set j v) :=
  ((h.stored i u).1.stored j v).1

/-- WHAT THE OUTER LOOP OF THE DOCUMENT'S Order KEEPS. -/
def RoRel (l : List Nat) (w : World) (v i : Value) (wr : World) : Prop :=
  ∃ (k : Nat) (o : List Nat), k ≤ l.length ∧ i = .int .i64 (k : Int) ∧ Hid (OrdTo l k o) ∧ wr.ownsRow w.heap.size 3 1 v k (ints o) ∧ Below w.heap.size w wr

set_option maxRecDepth 100000 in
set_option maxHeartbeats 2000000 in
theorem refOrder_any (A : Option Addr) (n c : Nat) (l : List Nat) (w : World) (ha : Rd w A (fls l)) (hn : l.length = n) (hf : Fl l) (hle : n ≤ 1000000000) :
    Calls Try.prog 24 #[.slice A n c] w fun e w' => ∃ v o, e = .returned v ∧ IsOrd l o ∧ w'.ownsRow w.heap.size 3 1 v n (ints o) ∧ Below w.heap.size w w' := by
  subst hn
  have mixed := mixed_orders
  obtain ⟨i0, hi0, hz0, hz1, hz2⟩ := info_parts info_int
  have HA := Lib.hid ha
  have HF := Lib.hid hf
  have h0 : RoRel l w (.slice none 0 0) (.int .i64 0) w := ⟨0, [], by omega, rfl, ⟨List.Perm.refl _, List.Pairwise.nil⟩, World.ownsRow_nil _ _ _ _, Below.refl _ _⟩
  have H0 := Lib.hid h0
  clear ha h0 hf
  go_enter Try.func24, Try.ntmps24
  go_wp2
  go_loopw [3, 4, 5] (fun v i _ wr => RoRel l w v i wr) (fun _ i _ _ => l.length - (intOf i).toNat)
  case atStart => exact H0.out
  case round =>
    clear H0
    obtain ⟨i, o, hi, rfl, HO, ho, hb⟩ := hrel
    have hB : w.heap.size ≤ wr.heap.size := hb.size
    by_cases hlt : i < l.length
    · have hd : decide ((i : Int) < (l.length : Int)) = true := by simp; omega
      go_wp2_with (at_builtin; refine wpList_append_own _ rfl (.tmp 12) (.tmp 14) 37 rfl w.heap.size 3 i0 (.int .i64 0) 1 8 Try.underlying37 hi0 hz0 hz1 hz2 rfl (by decide) _ _ _ rfl (ho.alloc _) ⟨wr.heap.size, 0, none⟩ 1 1 [.int .i64 (i : Int)] rfl rfl (cell_one_new _ _ _) ?c2 ?c3 ?c4 ?c5 ?_)
      case c2 => simp [Value.oneCell']
      case c3 => unfold maxLen; omega
      case c4 => omega
      case c5 => first | omega | (simp; omega)
      intro v1 w1 hown1 hg1 _
      have hb1 : Below w.heap.size w w1 := (hb.alloc hB _).grown hg1 (by simp; omega) (fun q hq => (ho.lt q hq).1)
      rw [← ints_snoc] at hown1
      obtain ⟨g, cap, rfl⟩ : ∃ g cap, v1 = .slice (some ⟨g, 0, none⟩) (i + 1) cap := by
        rcases hown1.2 with ⟨_, h⟩ | ⟨g, cap, _, h, _⟩
        · omega
        · exact ⟨g, cap, h⟩
      have hgB : w.heap.size ≤ g := (hown1.lt g rfl).1
      obtain ⟨m, hm⟩ : ∃ m, m = i + 1 := ⟨_, rfl⟩
      rw [← hm] at hown1 ⊢
      have em : (m : Int) - 1 = (i : Int) := by omega
      have HM := Lib.hid hm
      clear hm
      have HI := Lib.hid (InsP.first (l := l) HO.out.len)
      clear ho hb hg1
      go_wp2
      go_loopw [5] (fun vk wx => ∃ (k : Nat) (out : List Nat), k ≤ i ∧ vk = .int .i64 (k : Int) ∧ Hid (InsP l o i k out) ∧ wx.ownsRow w.heap.size 3 1 (.slice (some ⟨g, 0, none⟩) m cap) m (ints out) ∧ Below w.heap.size w wx) (fun vk _ => (intOf vk).toNat)
      case atStart => exact ⟨i, o ++ [i], by omega, by first | rfl | go_num | (congr 1; omega), HI, hown1, hb1⟩
      case round =>
        clear HI hown1 hb1
        obtain ⟨k, out, hki, rfl, HI, ho, hb⟩ := hrel
        have hl : out.length = i + 1 := by rw [HI.out.len, HO.out.len]
        have HL := Lib.hid hl
        clear hl
        by_cases hk0 : 0 < k
        · obtain ⟨kp, hkp⟩ : ∃ q, q + 1 = k := ⟨k - 1, by omega⟩
          have zkp : (k : Int) = (kp : Int) + 1 := by omega
          have hkl : k < out.length := by rw [HL.out]; omega
          have hpl : kp < out.length := by omega
          have hat := HI.out.at hkl
          have HP : Hid (out[kp] < i) := by
            have h1 : out[kp] ∈ out := List.getElem_mem hpl
            obtain ⟨o1, o2, e1, e2, e3, _⟩ := HI.out
            have h2 : out[kp] = o1[kp]'(by omega) := by
              have : out[kp]? = o1[kp]? := by rw [e2, List.getElem?_append_left (by omega)]
              rw [List.getElem?_eq_getElem hpl, List.getElem?_eq_getElem (by omega)] at this
              exact Option.some.inj this
            rw [h2]
            exact HO.out.lt (by rw [e1]; exact List.mem_append.2 (.inl (List.getElem_mem _)))
          have c1 := ho.cellAt k (by rw [HM.out]; omega)
          have c2 := ho.cellAt kp (by rw [HM.out]; omega)
          have g1 : (ints out)[k]? = some (.int .i64 (i : Int)) := by unfold ints; rw [List.getElem?_map, List.getElem?_eq_getElem hkl, hat]; rfl
          obtain ⟨p, hp⟩ : ∃ p, p = out[kp] := ⟨_, rfl⟩
          have g2 : (ints out)[kp]? = some (.int .i64 (p : Int)) := by unfold ints; rw [List.getElem?_map, List.getElem?_eq_getElem hpl, hp]; rfl
          rw [g1] at c1
          rw [g2] at c2
          have f1 := ho.frozenAt k
          have f2 := ho.frozenAt kp
          have hst := HI.out
          rw [← hkp] at hst
          have hstep : kk l i < kk l p → InsP l o i kp ((out.set k p).set kp i) := by
            have := hst.step hpl
            rw [← hp, hkp] at this
            exact this
          have HST := Lib.hid hstep
          have hpe : ∀ h : k - 1 < out.length, out[k - 1] = p := fun h => by rw [hp]; congr 1; omega
          have HPE := Lib.hid hpe
          have HP2 : Hid (p < i) := by rw [hp]; exact HP.out
          clear hst hstep hat g1 g2 hp hpe HP
          clear hkl hpl
          have h1 := HA.out.keep hb
          have hpi := HP2.out
          obtain ⟨b, off, hAe, hbl, hci⟩ := h1.get (k := i) (by rw [fls_len]; exact hlt)
          obtain ⟨b', off', hAe', hbl', hcp⟩ := h1.get (k := p) (by rw [fls_len]; omega)
          subst hAe
          cases hAe'
          rw [fls_get] at hci hcp
          have ki : kk l i = key l[i] := by unfold kk; rw [List.getD_eq_getElem?_getD, List.getElem?_eq_getElem hlt]; rfl
          have kp' : kk l p = key (l[p]'(by omega)) := by unfold kk; rw [List.getD_eq_getElem?_getD, List.getElem?_eq_getElem (by omega)]; rfl
          have q1 := HF.out l[i] (List.getElem_mem hlt)
          have q2 := HF.out (l[p]'(by omega)) (List.getElem_mem _)
          have KI := Lib.hid ki
          have KP := Lib.hid kp'
          clear ki kp' h1
          obtain ⟨x, hx⟩ : ∃ x, x = l[i] := ⟨_, rfl⟩
          obtain ⟨y, hy⟩ : ∃ y, y = l[p]'(by omega) := ⟨_, rfl⟩
          rw [← hx] at hci q1 KI
          rw [← hy] at hcp q2 KP
          clear hx hy
          have hc : ∀ m, Calls Try.prog 15 #[.float .f64 x, .float .f64 y] (wr.drewN m) fun e w' => e = .returned (.int .i64 (cmpF x y)) ∧ ∃ r, w' = (wr.drewN m).drewN r :=
            fun m => (refCmp_any x y _ q1 q2).mono fun _ _ ⟨he, hw⟩ => ⟨he, 0, hw.symm⟩
          have HKP := Lib.hid hkp
          have hpn : p < l.length := by omega
          have hpz : (p : Int) < (l.length : Int) := by omega
          clear hkp hpi
          have hlt1 : (0 : Int) < (kp : Int) + 1 := by omega
          have hdl : decide ((kp : Int) + 1 > 0) = true := decide_eq_true hlt1
          have ei : ((kp : Int) + 1).toNat = k := by omega
          have ri : IntKind.i64.wrap ((kp : Int) + 1) = (kp : Int) + 1 := by rw [IntKind.wrap_i64]; omega
          have rj : IntKind.i64.wrap (kp : Int) = (kp : Int) := by rw [IntKind.wrap_i64]; omega
          have pi : (0 : Int) ≤ (kp : Int) + 1 := by omega
          have pj : (0 : Int) ≤ (kp : Int) := by omega
          have bi : (kp : Int) + 1 < (m : Int) := by have := HM.out; omega
          have bj : (kp : Int) < (m : Int) := by omega
          by_cases hcv : key x < key y
          · have hv : cmpF x y < 0 := cmpF_lt.2 hcv
            have hdv : decide (cmpF x y < 0) = true := decide_eq_true hv
            have HIN := Lib.hid (HST.out (by rw [KI.out, KP.out]; exact hcv))
            generalize cmpF x y = r at hc hv hdv
            clear hcv
            go_wp2_with fail
            go_quiet (first | (go_at_call 15; refine Calls.quiet_of (hc _)))
            have c1' : (wr.drewN nq).cell? ⟨g, k, none⟩ = some (.int .i64 (i : Int)) := c1
            have c2' : (wr.drewN nq).cell? ⟨g, kp, none⟩ = some (.int .i64 (p : Int)) := c2
            have f1' : (wr.drewN nq).frozen? ⟨g, k, none⟩ = false := f1
            have f2' : (wr.drewN nq).frozen? ⟨g, kp, none⟩ = false := f2
            have ho' : (wr.drewN nq).ownsRow w.heap.size 3 1 (.slice (some ⟨g, 0, none⟩) m cap) m (ints out) := ho
            have hx := exch_own ho' k kp (.int .i64 (p : Int)) (.int .i64 (i : Int))
            rw [ints_set, ints_set] at hx
            have hbx : Below w.heap.size w (((wr.drewN nq).setCell ⟨g, k, none⟩ (.int .i64 (p : Int))).setCell ⟨g, kp, none⟩ (.int .i64 (i : Int))).drew := below_drewN (((below_drewN hb nq).setCell (by exact hgB) _).setCell (by exact hgB) _) 1
            have cc : ((wr.drewN nq).setCell ⟨g, k, none⟩ (.int .i64 (p : Int))).cell? ⟨g, kp, none⟩ = some (.int .i64 (p : Int)) := by
              rw [World.cell?_setCell_other _ _ _ _ (by intro e; have h1 := HKP.out; have h2 : k = kp := congrArg Addr.off e; omega)]; exact c2'
            have HX := Lib.hid hx
            have HBX := Lib.hid hbx
            clear c1 c2 f1 f2 ho hb ho' hx hbx hc hci hcp
            generalize wr.drewN nq = wy at *
            go_wp2_with fail
            go_big_region_o
            generalize ((wy.setCell ⟨g, k, none⟩ (.int .i64 (p : Int))).setCell ⟨g, kp, none⟩ (.int .i64 (i : Int))).drew = wz at HX HBX ⊢
            clear c1' c2' f1' f2' cc ei ri rj bi bj pi pj
            go_wp2
            go_roundw
            case rel => exact ⟨kp, (out.set k p).set kp i, by omega, by first | rfl | go_num | (congr 1; omega), HIN, HX.out, HBX.out⟩
            case measure => simp [intOf]; omega
          · have hv : ¬ cmpF x y < 0 := fun h => hcv (cmpF_lt.1 h)
            have hdv : decide (cmpF x y < 0) = false := decide_eq_false hv
            have HEND := Lib.hid (HI.out.done HO.out (fun h0 hk => by rw [HPE.out hk, KI.out, KP.out]; omega))
            generalize cmpF x y = r at hc hv hdv
            clear hcv
            go_wp2_with fail
            go_quiet (first | (go_at_call 15; refine Calls.quiet_of (hc _)))
            go_wp2
            go_roundw
            case rel => exact ⟨i + 1, out, by omega, by first | rfl | go_num | (congr 1; omega), HEND, by rw [← HM.out]; exact ho, below_drewN hb nq⟩
            case measure => simp [intOf]; omega
        · obtain rfl : k = 0 := by omega
          have HEND := Lib.hid (HI.out.done HO.out (fun h0 hk => absurd h0 hk0))
          go_wp2_with fail
          go_quiet (fail)
          go_wp2
          go_roundw
          case rel => exact ⟨i + 1, out, by omega, by first | rfl | go_num | (congr 1; omega), HEND, by rw [← HM.out]; exact ho, below_drewN hb nq⟩
          case measure => simp [intOf]; omega
    · obtain rfl : i = l.length := by omega
      have hd : decide (((l.length : Nat) : Int) < (l.length : Int)) = false := by simp
      go_wp2
      go_ret
      exact ⟨_, o, rfl, HO.out, ho, hb⟩

end Go.Proofs.Ytcpacgflljmlaaa.G4
