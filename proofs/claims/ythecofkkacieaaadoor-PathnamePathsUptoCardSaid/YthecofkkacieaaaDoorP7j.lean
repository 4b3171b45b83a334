/-
  Layer 7, walks: paths split and joined as they were.
-/
import Derived.Test.YthecofkkacieaaaDoorP7i
namespace Go.Proofs.YthecofkkacieaaaDoor.P7
open Go.RowKit Go.PlainAid M7
open S5 (Env ts)
set_option linter.unusedVariables false

theorem row_strs {w : World} {a : Option Addr} {len cap : Nat} {ss : List ByteArray} (h : IsStrs w a len cap ss) :
    ∃ ls : List (List UInt8), ls = (ss.take len).map (fun s => s.data.toList) ∧ Rd w a (ts ls) ∧ ls.length = len ∧ (∀ l ∈ ls, l.length ≤ 140737488351232) ∧ len ≤ cap := by
  obtain ⟨h1, h2, h3⟩ := Rd.of_strs h
  refine ⟨(ss.take len).map fun s => s.data.toList, rfl, ?_, by rw [List.length_map]; exact h2, ?_, ?_⟩
  · have : ts ((ss.take len).map fun s => s.data.toList) = (ss.take len).map Value.string := by
      unfold ts
      rw [List.map_map]
      refine List.map_congr_left fun s _ => ?_
      show Value.string (bs s.data.toList) = _
      rw [bs_of]
    rw [this]; exact h1
  · intro l hl
    obtain ⟨s, hs, rfl⟩ := List.mem_map.1 hl
    have h4 := h3 s hs
    have h5 : s.data.toList.length = s.size := rfl
    omega
  · rcases h with ⟨_, rfl, rfl, _⟩ | ⟨_, _, hl, _⟩
    · omega
    · exact hl

theorem joinR_seen {L : List (List UInt8)} (h : ∀ x ∈ L, seenB x = true) (hl : L.length ≤ 100) : (joinR L).length ≤ 6101 := by
  cases L with
  | nil => simp [joinR]
  | cons a r =>
    rw [joinR_cons]
    have := ahead_len (a :: r) 60 (fun x hx => (seen_parts (h x hx)).1)
    omega

theorem first_of_le {L : List (List UInt8)} {k : Nat} (h : ∀ j (hj : j < L.length), j < k → seenB L[j] = true) (hk : L.length ≤ k) : ∀ x ∈ L, seenB x = true := fun x hx => by
  obtain ⟨j, hj, rfl⟩ := List.getElem_of_mem hx
  exact h j hj (by omega)

set_option maxRecDepth 100000 in
set_option maxHeartbeats 1000000 in
theorem back_big (w : World) (he : Env w) (p : List UInt8) (A : Option Addr) (n cap : Nat) (h : 5000 < p.length ∨ 100 < n) :
    Calls Tryd.prog 5 #[.string (bs p), .slice A n cap] w fun e w' => e = .returned (.bool true) ∧ Below w.heap.size w w' := by
  have hsz := bs_size p
  have HE := Lib.hid he
  clear he
  by_cases hp : 5000 < p.length
  · clear h
    go_enter Tryd.func5, Tryd.ntmps5
    go_wp2_with fail
    refine (awake_any _ HE.out).mono ?_
    rintro e w1 ⟨rfl, hb1⟩
    go_wp2
    go_ret
    exact ⟨rfl, hb1⟩
  · have hn : 100 < n := by omega
    clear h
    go_enter Tryd.func5, Tryd.ntmps5
    go_wp2_with fail
    refine (awake_any _ HE.out).mono ?_
    rintro e w1 ⟨rfl, hb1⟩
    go_wp2
    go_ret
    exact ⟨rfl, hb1⟩

set_option maxRecDepth 100000 in
set_option maxHeartbeats 2000000 in
theorem back_err (w : World) (he : Env w) (p : List UInt8) (hp : p.length ≤ 5000) (A : Option Addr) (n cap : Nat) (L : List (List UInt8)) (hr : Rd w A (ts L)) (hn : L.length = n) (hz : ∀ l ∈ L, l.length ≤ 140737488351232) (hcap : n ≤ cap) (h100 : n ≤ 100)
    {a : List (List UInt8)} {x : Int} (hsp : splitP p = (a, x)) (hx : x ≠ 0) :
    Calls Tryd.prog 5 #[.string (bs p), .slice A n cap] w fun e w' => e = .returned (.bool true) ∧ Below w.heap.size w w' := by
  subst hn
  have hsz := bs_size p
  have HE := Lib.hid he
  have HR := Lib.hid hr
  have HSP := Lib.hid hsp
  have HZ := Lib.hid hz
  clear he hr hsp hz
  go_enter Tryd.func5, Tryd.ntmps5
  go_wp2_with fail
  refine (awake_any _ HE.out).mono ?_
  rintro e w1 ⟨rfl, hb1⟩
  have E1 := Lib.hid (HE.out.keep hb1)
  go_wp2_with fail
  refine (split_any p (by omega) _ E1.out HSP.out).mono ?_
  rintro e w2 ⟨B, c, rfl, hr2, hb2, hc2⟩
  have E2 := Lib.hid (E1.out.keep hb2)
  have B2 := Lib.hid (chain hb1 hb2)
  have R2 := Lib.hid hr2
  clear hb1 hb2 hr2 E1
  have hxq : (x == (0 : Int)) = false := by simpa using hx
  go_wp2
  have B3 := B2
  have E3 := E2
  have RL := Lib.hid (HR.out.keep B3.out)
  clear HR
  go_loopw [8] (fun v wr => ∃ k : Nat, k ≤ L.length ∧ v = .int .i64 (k : Int) ∧ (∀ j (hj : j < L.length), j < k → seenB L[j] = true) ∧ Below w2.heap.size w2 wr) (fun v _ => L.length - (intOf v).toNat)
  case atStart => exact ⟨0, by omega, rfl, fun j _ hj => absurd hj (by omega), Below.refl _ _⟩
  case round =>
    obtain ⟨k, hk, rfl, hs, hb⟩ := hrel
    by_cases hlt : k < L.length
    · have h1 := RL.out.keep hb
      obtain ⟨b, off, rfl, hbl, hc⟩ := h1.get (k := k) (by rw [S5.ts_len]; exact hlt)
      rw [ts_get] at hc
      have hzk := HZ.out _ (List.getElem_mem hlt)
      obtain ⟨bx, hbx⟩ : ∃ bx, seenB L[k] = bx := ⟨_, rfl⟩
      have HB := Lib.hid hbx
      have HS := Lib.hid hs
      have Ek := Lib.hid (E3.out.keep hb)
      clear h1 hbx hs
      go_wp2_with fail
      refine (seen_as HB.out hzk Ek.out).mono ?_
      rintro e w4 ⟨rfl, hb4⟩
      have hb := hb.trans (hb4.mono hb.size)
      clear hb4
      cases bx
      · go_wp2
        go_ret
        exact ⟨rfl, chain B3.out hb⟩
      · have hs2 : ∀ j (hj : j < L.length), j < k + 1 → seenB L[j] = true := fun j hj h => by
          by_cases h2 : j < k
          · exact HS.out j hj h2
          · obtain rfl : j = k := by omega
            exact HB.out
        have HS2 := Lib.hid hs2
        clear hs2
        go_wp2
        go_roundw
        case rel => exact ⟨k + 1, by omega, by go_num, HS2.out, hb⟩
        case measure => simp [intOf]; omega
    · have hall := first_of_le hs (by omega)
      have hjs := join_splitP hall
      have hjl := joinR_seen hall h100
      have HJ := Lib.hid hjs
      have HA := Lib.hid hall
      have R4 := Lib.hid (RL.out.keep hb)
      have E4 := Lib.hid (E3.out.keep hb)
      have B4 := Lib.hid (chain B3.out hb)
      clear hs hall hjs hb RL E3 B3
      go_wp2_with fail
      refine (join_any L wr R4.out rfl hcap (by omega) (by omega)).mono ?_
      rintro e w5 ⟨rfl, hb5⟩
      have R5 := Lib.hid (R4.out.keep hb5)
      have E5 := Lib.hid (E4.out.keep hb5)
      have B5 := Lib.hid (chain B4.out hb5)
      clear hb5 R4 E4 B4
      by_cases h20 : 20 < L.length
      · have hq := HJ.out
        rw [if_pos h20] at hq
        have HQ := Lib.hid hq
        clear hq
        go_wp2_with fail
        refine (split_any (joinR L) (by omega) _ E5.out HQ.out).mono ?_
        rintro e w6 ⟨B6, c6, rfl, hr6, hb6, hc6⟩
        have B7 := Lib.hid (chain B5.out hb6)
        clear hr6 hb6
        go_wp2
        go_ret
        exact ⟨rfl, B7.out⟩
      · have hq := HJ.out
        rw [if_neg h20] at hq
        have HQ := Lib.hid hq
        clear hq
        go_wp2_with fail
        refine (split_any (joinR L) (by omega) _ E5.out HQ.out).mono ?_
        rintro e w6 ⟨B6, c6, rfl, hr6, hb6, hc6⟩
        have B7 := Lib.hid (chain B5.out hb6)
        have R6 := Lib.hid (R5.out.keep hb6)
        have R7 := Lib.hid hr6
        clear hr6 hb6
        go_wp2_with fail
        refine (sameTexts_any _ _ _ _ _ L _ R7.out R6.out rfl (by omega)).mono ?_
        rintro e w7 ⟨rfl, hb7⟩
        have B8 := Lib.hid (chain B7.out hb7)
        clear hb7
        go_wp2
        go_ret
        exact ⟨rfl, B8.out⟩

set_option maxRecDepth 100000 in
set_option maxHeartbeats 2000000 in
theorem back_ok (w : World) (he : Env w) (p : List UInt8) (hp : p.length ≤ 5000) (A : Option Addr) (n cap : Nat) (L : List (List UInt8)) (hr : Rd w A (ts L)) (hn : L.length = n) (hz : ∀ l ∈ L, l.length ≤ 140737488351232) (hcap : n ≤ cap) (h100 : n ≤ 100)
    {a : List (List UInt8)} {x : Int} (hsp : splitP p = (a, x)) (hx : x = 0) :
    Calls Tryd.prog 5 #[.string (bs p), .slice A n cap] w fun e w' => e = .returned (.bool true) ∧ Below w.heap.size w w' := by
  subst hn
  have hsz := bs_size p
  have HE := Lib.hid he
  have HR := Lib.hid hr
  have HSP := Lib.hid hsp
  have HZ := Lib.hid hz
  clear he hr hsp hz
  go_enter Tryd.func5, Tryd.ntmps5
  go_wp2_with fail
  refine (awake_any _ HE.out).mono ?_
  rintro e w1 ⟨rfl, hb1⟩
  have E1 := Lib.hid (HE.out.keep hb1)
  go_wp2_with fail
  refine (split_any p (by omega) _ E1.out HSP.out).mono ?_
  rintro e w2 ⟨B, c, rfl, hr2, hb2, hc2⟩
  have E2 := Lib.hid (E1.out.keep hb2)
  have B2 := Lib.hid (chain hb1 hb2)
  have R2 := Lib.hid hr2
  clear hb1 hb2 hr2 E1
  have hj := splitP_join (p := p) (by rw [HSP.out]; exact hx)
  rw [HSP.out] at hj
  have hal : a.length ≤ 1000000 := by
    by_cases h20 : a.length ≤ 20
    · omega
    · have := pieces_len p
      have h1 := joinR_len a
      have h2 : a.length ≤ (M7.ahead a).length := by
        clear h20 hj HSP R2 hc2 h1 this
        induction a with
        | nil => simp
        | cons y r ih => rw [ahead_cons]; simp only [List.length_cons, List.length_append]; omega
      have h3 := congrArg List.length hj
      simp only at h3
      omega
  have hjl : (joinR a).length ≤ 140737488355328 := by
    have h3 := congrArg List.length hj
    simp only at h3
    omega
  have HJ0 := Lib.hid (show joinR a = p from hj)
  have hne : ((bs p).toList != (bs p).toList) = false := by simp
  subst hx
  clear hj
  go_wp2_with fail
  refine (join_any a _ R2.out rfl hc2 hal hjl).mono ?_
  rintro e w3 ⟨rfl, hb3⟩
  rw [HJ0.out]
  have B3 := Lib.hid (chain B2.out hb3)
  have E3 := Lib.hid (E2.out.keep hb3)
  clear hb3
  go_wp2
  have RL := Lib.hid (HR.out.keep B3.out)
  clear HR
  go_loopw [8] (fun v wr => ∃ k : Nat, k ≤ L.length ∧ v = .int .i64 (k : Int) ∧ (∀ j (hj : j < L.length), j < k → seenB L[j] = true) ∧ Below w3.heap.size w3 wr) (fun v _ => L.length - (intOf v).toNat)
  case atStart => exact ⟨0, by omega, rfl, fun j _ hj => absurd hj (by omega), Below.refl _ _⟩
  case round =>
    obtain ⟨k, hk, rfl, hs, hb⟩ := hrel
    by_cases hlt : k < L.length
    · have h1 := RL.out.keep hb
      obtain ⟨b, off, rfl, hbl, hc⟩ := h1.get (k := k) (by rw [S5.ts_len]; exact hlt)
      rw [ts_get] at hc
      have hzk := HZ.out _ (List.getElem_mem hlt)
      obtain ⟨bx, hbx⟩ : ∃ bx, seenB L[k] = bx := ⟨_, rfl⟩
      have HB := Lib.hid hbx
      have HS := Lib.hid hs
      have Ek := Lib.hid (E3.out.keep hb)
      clear h1 hbx hs
      go_wp2_with fail
      refine (seen_as HB.out hzk Ek.out).mono ?_
      rintro e w4 ⟨rfl, hb4⟩
      have hb := hb.trans (hb4.mono hb.size)
      clear hb4
      cases bx
      · go_wp2
        go_ret
        exact ⟨rfl, chain B3.out hb⟩
      · have hs2 : ∀ j (hj : j < L.length), j < k + 1 → seenB L[j] = true := fun j hj h => by
          by_cases h2 : j < k
          · exact HS.out j hj h2
          · obtain rfl : j = k := by omega
            exact HB.out
        have HS2 := Lib.hid hs2
        clear hs2
        go_wp2
        go_roundw
        case rel => exact ⟨k + 1, by omega, by go_num, HS2.out, hb⟩
        case measure => simp [intOf]; omega
    · have hall := first_of_le hs (by omega)
      have hjs := join_splitP hall
      have hjl := joinR_seen hall h100
      have HJ := Lib.hid hjs
      have HA := Lib.hid hall
      have R4 := Lib.hid (RL.out.keep hb)
      have E4 := Lib.hid (E3.out.keep hb)
      have B4 := Lib.hid (chain B3.out hb)
      clear hs hall hjs hb RL E3 B3
      go_wp2_with fail
      refine (join_any L wr R4.out rfl hcap (by omega) (by omega)).mono ?_
      rintro e w5 ⟨rfl, hb5⟩
      have R5 := Lib.hid (R4.out.keep hb5)
      have E5 := Lib.hid (E4.out.keep hb5)
      have B5 := Lib.hid (chain B4.out hb5)
      clear hb5 R4 E4 B4
      by_cases h20 : 20 < L.length
      · have hq := HJ.out
        rw [if_pos h20] at hq
        have HQ := Lib.hid hq
        clear hq
        go_wp2_with fail
        refine (split_any (joinR L) (by omega) _ E5.out HQ.out).mono ?_
        rintro e w6 ⟨B6, c6, rfl, hr6, hb6, hc6⟩
        have B7 := Lib.hid (chain B5.out hb6)
        clear hr6 hb6
        go_wp2
        go_ret
        exact ⟨rfl, B7.out⟩
      · have hq := HJ.out
        rw [if_neg h20] at hq
        have HQ := Lib.hid hq
        clear hq
        go_wp2_with fail
        refine (split_any (joinR L) (by omega) _ E5.out HQ.out).mono ?_
        rintro e w6 ⟨B6, c6, rfl, hr6, hb6, hc6⟩
        have B7 := Lib.hid (chain B5.out hb6)
        have R6 := Lib.hid (R5.out.keep hb6)
        have R7 := Lib.hid hr6
        clear hr6 hb6
        go_wp2_with fail
        refine (sameTexts_any _ _ _ _ _ L _ R7.out R6.out rfl (by omega)).mono ?_
        rintro e w7 ⟨rfl, hb7⟩
        have B8 := Lib.hid (chain B7.out hb7)
        clear hb7
        go_wp2
        go_ret
        exact ⟨rfl, B8.out⟩

theorem lawBack (w : World) (he : Env w) (p : ByteArray) (hz : p.size ≤ 140737488351232) (A : Option Addr) (len cap : Nat) (ss : List ByteArray) (hrow : IsStrs w A len cap ss) (hc : cap * 16 ≤ 140737488351232) :
    Calls Tryd.prog 5 #[.string p, .slice A len cap] w fun e w' => e = .returned (.bool true) ∧ Below w.heap.size w w' := by
  obtain ⟨l, rfl⟩ : ∃ l, p = bs l := ⟨p.data.toList, (bs_of p).symm⟩
  by_cases hbig : 5000 < l.length ∨ 100 < len
  · exact back_big w he l A len cap hbig
  · obtain ⟨ls, _, hr, hn, hzl, hcap⟩ := row_strs hrow
    obtain ⟨a, x, hsp⟩ : ∃ a x, splitP l = (a, x) := ⟨_, _, rfl⟩
    by_cases hx : x = 0
    · exact back_ok w he l (by omega) A len cap ls hr hn hzl hcap (by omega) hsp hx
    · exact back_err w he l (by omega) A len cap ls hr hn hzl hcap (by omega) hsp hx

end Go.Proofs.YthecofkkacieaaaDoor.P7
