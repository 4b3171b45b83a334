/-
  Layer 6, walks: the document's first.
-/
import Derived.Test.YtpdghmecodlhhaaP6h
namespace Go.Proofs.Ytpdghmecodlhhaa.P6
open Go.RowKit Go.PlainAid M6
set_option linter.unusedVariables false

/-- What first answers. -/
def firstV (o : Option (Nat × Nat)) : Value := match o with
  | none => .tuple #[.int .i64 0, .int .i64 0, .bool false]
  | some p => .tuple #[.int .i64 (p.1 : Int), .int .i64 (p.2 : Int), .bool true]
theorem ret_first {v : Value} {o : Option (Nat × Nat)} (h : v = firstV o) : Ending.returned v = Ending.returned (firstV o) := by rw [h]

set_option maxRecDepth 100000 in
set_option maxHeartbeats 400000 in
theorem first_one (b : UInt8) (r : List UInt8) (h : b.toNat < 128) (w : World) :
    Calls Try.prog 27 #[.string (bs (b :: r))] w fun e w' => e = .returned (firstV (pt (b :: r))) ∧ w = w' := by
  have hp : pt (b :: r) = some (b.toNat, 1) := by simp [pt, h]
  have hs : 0 < (bs (b :: r)).size := by rw [bs_size]; simp
  have hx : ∀ h : 0 < (bs (b :: r)).size, (bs (b :: r))[0]'h = b := fun _ => rfl
  have HP := Lib.hid hp
  clear hp
  generalize bs (b :: r) = s at *
  go_enter Try.func27, Try.ntmps27
  go_wp2
  go_ret3
  exact ⟨ret_first (by rw [HP.out]; rfl), rfl⟩

set_option maxRecDepth 100000 in
set_option maxHeartbeats 400000 in
theorem first_none (b : UInt8) (r : List UInt8) (h : 128 ≤ b.toNat) (hk : kind b.toNat = none) (w : World) :
    Calls Try.prog 27 #[.string (bs (b :: r))] w fun e w' => e = .returned (firstV (pt (b :: r))) ∧ w = w' := by
  have hp : pt (b :: r) = none := by simp [pt, hk]; omega
  have hs : 0 < (bs (b :: r)).size := by rw [bs_size]; simp
  have hx : ∀ h : 0 < (bs (b :: r)).size, (bs (b :: r))[0]'h = b := fun _ => rfl
  have HP := Lib.hid hp
  have hb := b.toNat_lt
  have hk2 : (128 ≤ b.toNat ∧ b.toNat < 194) ∨ 245 ≤ b.toNat := by
    unfold kind at hk
    by_cases k2 : 194 ≤ b.toNat ∧ b.toNat < 224
    · rw [if_pos k2] at hk; cases hk
    · rw [if_neg k2] at hk
      by_cases k3 : 224 ≤ b.toNat ∧ b.toNat < 240
      · rw [if_pos k3] at hk; cases hk
      · rw [if_neg k3] at hk
        by_cases k4 : 240 ≤ b.toNat ∧ b.toNat < 245
        · rw [if_pos k4] at hk; cases hk
        · omega
  clear hp hk
  generalize bs (b :: r) = s at *
  go_enter Try.func27, Try.ntmps27
  go_wp2
  all_goals first
    | (go_ret3; exact ⟨ret_first (by rw [HP.out]; rfl), rfl⟩)
    | (exfalso; omega)

/-- WHAT THE LOOP OF first KEEPS: i bytes were read, they make c. -/
def FirRel (l : List UInt8) (n : Nat) (o : Option Nat) (sc si : Value) : Prop :=
  ∃ i c : Nat, 1 ≤ i ∧ i ≤ n ∧ si = .int .i64 (i : Int) ∧ sc = .int .i64 (c : Int) ∧ conts ((l.drop i).take (n - i)) c = o ∧ c < 64 ^ i
theorem pt_more {b : UInt8} {r : List UInt8} {n c0 : Nat} (hb : 128 ≤ b.toNat) (hk : kind b.toNat = some (n, c0)) (hn : n ≤ r.length + 1) :
    pt (b :: r) = match conts (((b :: r).drop 1).take (n - 1)) c0 with | none => none | some c => if wrong n c then none else some (c, n) := by
  simp only [pt, hk]
  rw [if_neg (by omega), if_neg (by omega)]
  rfl
theorem conts_step {l : List UInt8} {i n c : Nat} (hi : i < n) (hn : n ≤ l.length) (h : 128 ≤ l[i].toNat ∧ l[i].toNat < 192) : conts ((l.drop i).take (n - i)) c = conts ((l.drop (i + 1)).take (n - (i + 1))) (c * 64 + l[i].toNat - 128) := by
  rw [List.drop_eq_getElem_cons (show i < l.length by omega), show n - i = (n - (i + 1)) + 1 by omega, List.take_succ_cons]
  simp only [conts, if_pos h]
theorem conts_bad {l : List UInt8} {i n c : Nat} (hi : i < n) (hn : n ≤ l.length) (h : ¬ (128 ≤ l[i].toNat ∧ l[i].toNat < 192)) : conts ((l.drop i).take (n - i)) c = none := by
  rw [List.drop_eq_getElem_cons (show i < l.length by omega), show n - i = (n - (i + 1)) + 1 by omega, List.take_succ_cons]
  simp only [conts, if_neg h]
theorem conts_end {l : List UInt8} {n c : Nat} : conts ((l.drop n).take (n - n)) c = some c := by rw [Nat.sub_self, List.take_zero]; rfl
theorem pow_four {i c : Nat} (h : c < 64 ^ i) (hi : i ≤ 4) : c < 16777216 := Nat.lt_of_lt_of_le h (Nat.pow_le_pow_right (by omega) hi : 64 ^ i ≤ 64 ^ 4)

set_option maxRecDepth 100000 in
set_option maxHeartbeats 2000000 in
theorem first_more (b : UInt8) (r : List UInt8) (n c0 : Nat) (hk : kind b.toNat = some (n, c0)) (w : World) (hz : r.length ≤ 1099511627776) :
    Calls Try.prog 27 #[.string (bs (b :: r))] w fun e w' => e = .returned (firstV (pt (b :: r))) ∧ w = w' := by
  have hb := b.toNat_lt
  have hs : 0 < (bs (b :: r)).size := by rw [bs_size]; simp
  have hx : ∀ h : 0 < (bs (b :: r)).size, (bs (b :: r))[0]'h = b := fun _ => rfl
  have hk2 : (n = 2 ∧ c0 = b.toNat - 192 ∧ 194 ≤ b.toNat ∧ b.toNat < 224) ∨ (n = 3 ∧ c0 = b.toNat - 224 ∧ 224 ≤ b.toNat ∧ b.toNat < 240) ∨ (n = 4 ∧ c0 = b.toNat - 240 ∧ 240 ≤ b.toNat ∧ b.toNat < 245) := by
    unfold kind at hk
    by_cases k2 : 194 ≤ b.toNat ∧ b.toNat < 224
    · rw [if_pos k2] at hk; cases hk; exact .inl ⟨rfl, rfl, k2⟩
    · rw [if_neg k2] at hk
      by_cases k3 : 224 ≤ b.toNat ∧ b.toNat < 240
      · rw [if_pos k3] at hk; cases hk; exact .inr (.inl ⟨rfl, rfl, k3⟩)
      · rw [if_neg k3] at hk
        by_cases k4 : 240 ≤ b.toNat ∧ b.toNat < 245
        · rw [if_pos k4] at hk; cases hk; exact .inr (.inr ⟨rfl, rfl, k4⟩)
        · rw [if_neg k4] at hk; cases hk
  have hsz : (bs (b :: r)).size = r.length + 1 := by rw [bs_size]; rfl
  have h128 : 128 ≤ b.toNat := by omega
  by_cases hn : r.length + 1 < n
  · have hp : pt (b :: r) = none := by
      simp only [pt, hk]
      rw [if_neg (by omega), if_pos hn]
    have HP := Lib.hid hp
    have hlt : (bs (b :: r)).size < n := by rw [hsz]; exact hn
    clear hp hk hn hsz
    generalize bs (b :: r) = s at *
    rcases hk2 with ⟨rfl, _, h1, h2⟩ | ⟨rfl, _, h1, h2⟩ | ⟨rfl, _, h1, h2⟩
    all_goals
      go_enter Try.func27, Try.ntmps27
      go_wp2
    all_goals first
      | (go_ret3; exact ⟨ret_first (by rw [HP.out]; rfl), rfl⟩)
      | (exfalso; omega)
  · have hp := pt_more (r := r) h128 hk (by omega)
    have hln : n ≤ (b :: r).length := by simp; omega
    have hlt : n ≤ (bs (b :: r)).size := by rw [bs_size]; exact hln
    have hc64 : c0 < 64 ^ 1 := by omega
    have h0 : FirRel (b :: r) n (conts (((b :: r).drop 1).take (n - 1)) c0) (.int .i64 (c0 : Int)) (.int .i64 1) := ⟨1, c0, by omega, by omega, rfl, rfl, rfl, hc64⟩
    have hgl : ∀ (i : Nat) (hi : i < (b :: r).length) (h : i < (bs (b :: r)).size), (bs (b :: r))[i]'h = (b :: r)[i] := fun _ _ _ => rfl
    have H0 := Lib.hid h0
    have HP := Lib.hid hp
    have HG := Lib.hid hgl
    clear hp hk hn hsz hgl h0
    have hlz : (b :: r).length ≤ 1099511627777 := by simp; omega
    generalize b :: r = l at *
    generalize hco : conts ((l.drop 1).take (n - 1)) c0 = co at *
    have hn4 : n ≤ 4 := by omega
    clear hco
    rcases hk2 with ⟨rfl, hc, h1, h2⟩ | ⟨rfl, hc, h1, h2⟩ | ⟨rfl, hc, h1, h2⟩
    · subst hc
      have hcz : (b.toNat : Int) - 192 = ((b.toNat - 192 : Nat) : Int) := by omega
      go_enter Try.func27, Try.ntmps27
      go_wp2
      go_loop [7, 8] (fun sc si => FirRel l 2 co sc si) (fun _ si => 2 - (intOf si).toNat)
      case atStart => exact H0.out
      case round =>
        clear H0 hcz
        obtain ⟨i, c, hi1, hin, rfl, rfl, hco, hc6⟩ := hrel
        have hc7 := pow_four hc6 (by omega)
        by_cases hilt : i < 2
        · have hil : i < l.length := by omega
          have hib : i < (bs l).size := by omega
          have hxi := HG.out i hil hib
          by_cases hd : 128 ≤ l[i].toNat ∧ l[i].toNat < 192
          · have hst := conts_step (c := c) hilt hln hd
            rw [hco] at hst
            have hpw : c * 64 + l[i].toNat - 128 < 64 ^ (i + 1) := by rw [Nat.pow_succ]; omega
            have HS := Lib.hid hst
            have HW := Lib.hid hpw
            clear hst hpw hco hc6
            generalize l[i] = dd at *
            have hdl := dd.toNat_lt
            have hd1 := hd.1
            have hd2 := hd.2
            clear hd
            go_wp2
            go_round
            case rel => exact ⟨_, _, _, _, _, ⟨i + 1, c * 64 + dd.toNat - 128, by omega, by omega, by go_num, by congr 1; omega, HS.out.symm, HW.out⟩, rfl, rfl, rfl, rfl, rfl⟩
            case measure => simp [intOf]; omega
          · have hst := conts_bad (c := c) hilt hln hd
            rw [hco] at hst
            subst hst
            have HPN := Lib.hid HP.out
            clear hco hc6 HP
            generalize l[i] = dd at *
            have hdl := dd.toNat_lt
            have hdd : dd.toNat < 128 ∨ 192 ≤ dd.toNat := by omega
            clear hd
            go_wp2
            all_goals first
              | (go_ret3; exact ⟨ret_first (by rw [HPN.out]; rfl), rfl⟩)
              | (exfalso; omega)
        · obtain rfl : i = 2 := by omega
          rw [conts_end] at hco
          subst hco
          have hpt : pt l = if wrong 2 c then none else some (c, 2) := HP.out
          have HPT := Lib.hid hpt
          clear HP hpt hc6
          go_wp2
          all_goals go_ret3
          all_goals refine ⟨ret_first ?_, rfl⟩
          all_goals rw [HPT.out]
          all_goals first
            | (rw [if_pos (by unfold wrong; omega)]; rfl)
            | (rw [if_neg (by unfold wrong; omega)]; rfl)
    · subst hc
      have hcz : (b.toNat : Int) - 224 = ((b.toNat - 224 : Nat) : Int) := by omega
      go_enter Try.func27, Try.ntmps27
      go_wp2
      go_loop [7, 8] (fun sc si => FirRel l 3 co sc si) (fun _ si => 3 - (intOf si).toNat)
      case atStart => exact H0.out
      case round =>
        clear H0 hcz
        obtain ⟨i, c, hi1, hin, rfl, rfl, hco, hc6⟩ := hrel
        have hc7 := pow_four hc6 (by omega)
        by_cases hilt : i < 3
        · have hil : i < l.length := by omega
          have hib : i < (bs l).size := by omega
          have hxi := HG.out i hil hib
          by_cases hd : 128 ≤ l[i].toNat ∧ l[i].toNat < 192
          · have hst := conts_step (c := c) hilt hln hd
            rw [hco] at hst
            have hpw : c * 64 + l[i].toNat - 128 < 64 ^ (i + 1) := by rw [Nat.pow_succ]; omega
            have HS := Lib.hid hst
            have HW := Lib.hid hpw
            clear hst hpw hco hc6
            generalize l[i] = dd at *
            have hdl := dd.toNat_lt
            have hd1 := hd.1
            have hd2 := hd.2
            clear hd
            go_wp2
            go_round
            case rel => exact ⟨_, _, _, _, _, ⟨i + 1, c * 64 + dd.toNat - 128, by omega, by omega, by go_num, by congr 1; omega, HS.out.symm, HW.out⟩, rfl, rfl, rfl, rfl, rfl⟩
            case measure => simp [intOf]; omega
          · have hst := conts_bad (c := c) hilt hln hd
            rw [hco] at hst
            subst hst
            have HPN := Lib.hid HP.out
            clear hco hc6 HP
            generalize l[i] = dd at *
            have hdl := dd.toNat_lt
            have hdd : dd.toNat < 128 ∨ 192 ≤ dd.toNat := by omega
            clear hd
            go_wp2
            all_goals first
              | (go_ret3; exact ⟨ret_first (by rw [HPN.out]; rfl), rfl⟩)
              | (exfalso; omega)
        · obtain rfl : i = 3 := by omega
          rw [conts_end] at hco
          subst hco
          have hpt : pt l = if wrong 3 c then none else some (c, 3) := HP.out
          have HPT := Lib.hid hpt
          clear HP hpt hc6
          go_wp2
          all_goals go_ret3
          all_goals refine ⟨ret_first ?_, rfl⟩
          all_goals rw [HPT.out]
          all_goals first
            | (rw [if_pos (by unfold wrong; omega)]; rfl)
            | (rw [if_neg (by unfold wrong; omega)]; rfl)
    · subst hc
      have hcz : (b.toNat : Int) - 240 = ((b.toNat - 240 : Nat) : Int) := by omega
      go_enter Try.func27, Try.ntmps27
      go_wp2
      go_loop [7, 8] (fun sc si => FirRel l 4 co sc si) (fun _ si => 4 - (intOf si).toNat)
      case atStart => exact H0.out
      case round =>
        clear H0 hcz
        obtain ⟨i, c, hi1, hin, rfl, rfl, hco, hc6⟩ := hrel
        have hc7 := pow_four hc6 (by omega)
        by_cases hilt : i < 4
        · have hil : i < l.length := by omega
          have hib : i < (bs l).size := by omega
          have hxi := HG.out i hil hib
          by_cases hd : 128 ≤ l[i].toNat ∧ l[i].toNat < 192
          · have hst := conts_step (c := c) hilt hln hd
            rw [hco] at hst
            have hpw : c * 64 + l[i].toNat - 128 < 64 ^ (i + 1) := by rw [Nat.pow_succ]; omega
            have HS := Lib.hid hst
            have HW := Lib.hid hpw
            clear hst hpw hco hc6
            generalize l[i] = dd at *
            have hdl := dd.toNat_lt
            have hd1 := hd.1
            have hd2 := hd.2
            clear hd
            go_wp2
            go_round
            case rel => exact ⟨_, _, _, _, _, ⟨i + 1, c * 64 + dd.toNat - 128, by omega, by omega, by go_num, by congr 1; omega, HS.out.symm, HW.out⟩, rfl, rfl, rfl, rfl, rfl⟩
            case measure => simp [intOf]; omega
          · have hst := conts_bad (c := c) hilt hln hd
            rw [hco] at hst
            subst hst
            have HPN := Lib.hid HP.out
            clear hco hc6 HP
            generalize l[i] = dd at *
            have hdl := dd.toNat_lt
            have hdd : dd.toNat < 128 ∨ 192 ≤ dd.toNat := by omega
            clear hd
            go_wp2
            all_goals first
              | (go_ret3; exact ⟨ret_first (by rw [HPN.out]; rfl), rfl⟩)
              | (exfalso; omega)
        · obtain rfl : i = 4 := by omega
          rw [conts_end] at hco
          subst hco
          have hpt : pt l = if wrong 4 c then none else some (c, 4) := HP.out
          have HPT := Lib.hid hpt
          clear HP hpt hc6
          go_wp2
          all_goals go_ret3
          all_goals refine ⟨ret_first ?_, rfl⟩
          all_goals rw [HPT.out]
          all_goals first
            | (rw [if_pos (by unfold wrong; omega)]; rfl)
            | (rw [if_neg (by unfold wrong; omega)]; rfl)

theorem first_any {l : List UInt8} (hl : l ≠ []) (hz : l.length ≤ 1099511627776) (w : World) :
    Calls Try.prog 27 #[.string (bs l)] w fun e w' => e = .returned (firstV (pt l)) ∧ w = w' := by
  match l, hl with
  | b :: r, _ =>
    have hr : r.length ≤ 1099511627776 := by simp at hz; omega
    by_cases h : b.toNat < 128
    · exact first_one b r h w
    · cases hk : kind b.toNat with
      | none => exact first_none b r (by omega) hk w
      | some p => exact first_more b r p.1 p.2 hk w hr

end Go.Proofs.Ytpdghmecodlhhaa.P6
