/-
  Layer 4, walks: the library's merge in place.
-/
import Derived.Test.YtcpacgflljmlaaaG4e
namespace Go.Proofs.Ytcpacgflljmlaaa.G4
open Go.Shelf Go.RowKit Go.Lib Go.Sort
set_option linter.unusedVariables false
variable {α : Type} [Inhabited α]

/-- Where the left one goes. -/
def Srch (lt : α → α → Bool) (d : Array α) (a m b i j : Nat) : Prop := m ≤ i ∧ i ≤ j ∧ j ≤ b ∧ (m < i → lt d[i - 1]! d[a]! = true) ∧ (j < b → lt d[j]! d[a]! = false)

set_option maxRecDepth 1000000 in
set_option maxHeartbeats 4000000 in
theorem symMerge_left (enc : α → Value) (cf : α → α → Int) (lt : α → α → Bool) (hO : SWO lt) (g : Nat) (cb : Array Value) (blk off cap a b : Nat) (d0 d : Array α) (w0 w : World)
    (eg : ∀ args w, (callFunc g args).run Try.prog w = .ok (.enter g args) w) (hcmp : CmpLays1 Try.prog g cb enc cf blk off d0.size w0)
    (R : Row1 enc w0 blk off d0) (hs : d0.size = d.size) (S : SW enc w0 blk off d w) (hmb : a + 1 < b) (hb : b ≤ d.size) (hsz : d.size < 4611686018427387904)
    (sr : SortedIn lt (a + 1) b d) (hx : ∀ j, a + 1 ≤ j → j < b → lt d[j]! d[a]! = ltOf cf d[j]! d[a]!) :
    Calls Try.prog 54 #[.slice (some ⟨blk, off, none⟩) d.size cap, .int .i64 a, .int .i64 ((a : Int) + 1), .int .i64 b, .func (.func g) #[] cb] w fun e w' => e = .returned (.tuple #[]) ∧
      ∃ d', PermIn a b d d' ∧ SortedIn lt a b d' ∧ SW enc w0 blk off d' w' := by
  have mixed := mixed_orders
  have hcl0 := R.hO.cells
  simp only [Value.cells] at hcl0
  have hst := R.hO.store Try.prog
  have S0 : Aside (SW enc w0 blk off d w) := S
  have HC : Aside _ := hcmp
  have SR := Lib.hid sr
  have HX := Lib.hid hx
  clear S hcmp sr hx
  have z1 : IntKind.i64.wrap ((a : Int) + 1 - (a : Int)) = 1 := by rw [IntKind.wrap_i64]; omega
  have z2 : (a : Int) + 1 - (a : Int) = 1 := by omega
  go_enter Try.func54, Try.ntmps54
  go_wp2
  go_loopw [10, 11, 12] (fun vi vj _ wr => ∃ i j : Nat, vi = .int .i64 i ∧ vj = .int .i64 j ∧ i ≤ j ∧ j ≤ b ∧ Hid (Srch lt d a (a + 1) b i j) ∧ Aside (SW enc w0 blk off d wr)) (fun vi vj _ _ => (intOf vj).toNat - (intOf vi).toNat)
  case atStart => exact ⟨a + 1, b, by first | rfl | go_num | (congr 1; omega), rfl, by omega, by omega, ⟨by omega, by omega, by omega, fun h => by omega, fun h => by omega⟩, S0⟩
  case round =>
    clear S0
    obtain ⟨i, j, rfl, rfl, hij, hjb, HS, S1⟩ := hrel
    have hi1 := HS.out.1
    by_cases hlt : i < j
    · have hltz : (i : Int) < (j : Int) := by omega
      obtain ⟨h, hh⟩ : ∃ h, h = (i + j) / 2 := ⟨_, rfl⟩
      have eh : ((i : Int) + (j : Int)) / 2 = (h : Int) := by omega
      have hh1 : i ≤ h := by omega
      have hh2 : h < j := by omega
      clear hh
      go_wp2_with fail

      have HXh := HX.out h (by omega) (by omega)
      cases hlv : ltOf cf d[h]! d[a]! with
      | true =>
        have HN : Hid (Srch lt d a (a + 1) b (h + 1) j) := ⟨by omega, by omega, by omega, fun _ => by rw [Nat.add_sub_cancel, HXh]; exact hlv, HS.out.2.2.2.2⟩
        clear HXh HS
        obtain ⟨iN, hiN⟩ : ∃ q, q = h := ⟨_, rfl⟩
        obtain ⟨jN, hjN⟩ : ∃ q, q = a := ⟨_, rfl⟩
        have ei : ((h : Int)).toNat = iN := by omega
        have pi : (0 : Int) ≤ (h : Int) := by omega
        have bi : (h : Int) < (d.size : Int) := by omega
        have ri : IntKind.i64.wrap ((h : Int)) = (h : Int) := by rw [IntKind.wrap_i64]; omega
        have ej : ((a : Int)).toNat = jN := by omega
        have pj : (0 : Int) ≤ (a : Int) := by omega
        have bj : (a : Int) < (d.size : Int) := by omega
        have rj : IntKind.i64.wrap ((a : Int)) = (a : Int) := by rw [IntKind.wrap_i64]; omega
        obtain ⟨xv, hx⟩ : ∃ x, x = (d)[h]! := ⟨_, rfl⟩
        obtain ⟨yv, hy⟩ : ∃ x, x = (d)[a]! := ⟨_, rfl⟩
        have la := S1.out.cl R (by omega) (h) (by omega)
        have lb := S1.out.cl R (by omega) (a) (by omega)
        rw [← hx, ← hiN] at la
        rw [← hy, ← hjN] at lb
        have hc := S1.out.cmp HC.out (by omega) xv yv
        have hv : cf xv yv < 0 := by rw [hx, hy]; exact of_decide_eq_true hlv
        have hd : decide (cf xv yv < 0) = true := decide_eq_true hv
        clear hx hy hiN hjN
        go_wp2_with fail
        go_quiet_grown (first | (go_at_fn g; refine Calls.grown_of (hc _ _)))
        have S2 : Aside (SW enc w0 blk off (d) (grow (wr.drewN nq) osq)) := S1.out.grown nq osq
        clear la lb hc S1
        generalize grow (wr.drewN nq) osq = w2 at S2 ⊢
        clear nq osq
        clear ei ej ri rj bi bj pi pj hv hd
        go_wp2
        go_roundw
        case rel => exact ⟨h + 1, j, by first | rfl | go_num | (congr 1; omega), rfl, by omega, by omega, HN, S2⟩
        case measure => simp [intOf]; omega
      | false =>
        have HN : Hid (Srch lt d a (a + 1) b i h) := ⟨by omega, by omega, by omega, HS.out.2.2.2.1, fun _ => by rw [HXh]; exact hlv⟩
        clear HXh HS
        obtain ⟨iN, hiN⟩ : ∃ q, q = h := ⟨_, rfl⟩
        obtain ⟨jN, hjN⟩ : ∃ q, q = a := ⟨_, rfl⟩
        have ei : ((h : Int)).toNat = iN := by omega
        have pi : (0 : Int) ≤ (h : Int) := by omega
        have bi : (h : Int) < (d.size : Int) := by omega
        have ri : IntKind.i64.wrap ((h : Int)) = (h : Int) := by rw [IntKind.wrap_i64]; omega
        have ej : ((a : Int)).toNat = jN := by omega
        have pj : (0 : Int) ≤ (a : Int) := by omega
        have bj : (a : Int) < (d.size : Int) := by omega
        have rj : IntKind.i64.wrap ((a : Int)) = (a : Int) := by rw [IntKind.wrap_i64]; omega
        obtain ⟨xv, hx⟩ : ∃ x, x = (d)[h]! := ⟨_, rfl⟩
        obtain ⟨yv, hy⟩ : ∃ x, x = (d)[a]! := ⟨_, rfl⟩
        have la := S1.out.cl R (by omega) (h) (by omega)
        have lb := S1.out.cl R (by omega) (a) (by omega)
        rw [← hx, ← hiN] at la
        rw [← hy, ← hjN] at lb
        have hc := S1.out.cmp HC.out (by omega) xv yv
        have hv : ¬ cf xv yv < 0 := by rw [hx, hy]; exact of_decide_eq_false hlv
        have hd : decide (cf xv yv < 0) = false := decide_eq_false hv
        clear hx hy hiN hjN
        go_wp2_with fail
        go_quiet_grown (first | (go_at_fn g; refine Calls.grown_of (hc _ _)))
        have S2 : Aside (SW enc w0 blk off (d) (grow (wr.drewN nq) osq)) := S1.out.grown nq osq
        clear la lb hc S1
        generalize grow (wr.drewN nq) osq = w2 at S2 ⊢
        clear nq osq
        clear ei ej ri rj bi bj pi pj hv hd
        go_wp2
        go_roundw
        case rel => exact ⟨i, h, rfl, rfl, by omega, by omega, HN, S2⟩
        case measure => simp [intOf]; omega
    · have hltz : ¬ (i : Int) < (j : Int) := by omega
      obtain rfl : i = j := by omega
      have w1 : IntKind.i64.wrap ((i : Int) - 1) = (i : Int) - 1 := by rw [IntKind.wrap_i64]; omega
      have P0 : Hid (PermIn a b d d) := permIn_refl _ _ _
      have Q0 : Hid (∀ x, d[x]! = rotAt d a (a + 1) (a + 1) x) := fun x => (rot_none_r d a (a + 1) x).symm
      go_wp2
      go_loopw [13] (fun vk wr => ∃ (k : Nat) (dk : Array α), vk = .int .i64 k ∧ a ≤ k ∧ k + 1 ≤ i ∧ dk.size = d.size ∧ Hid (PermIn a b d dk) ∧ Hid (∀ x, dk[x]! = rotAt d a (a + 1) (k + 1) x) ∧ Aside (SW enc w0 blk off dk wr)) (fun vk _ => i - (intOf vk).toNat)
      case atStart => exact ⟨a, d, rfl, by omega, by omega, rfl, P0, Q0, S1⟩
      case round =>
        clear S1 P0 Q0
        obtain ⟨k, dk, rfl, hak, hki, hsk, HP, HQ, SK⟩ := hrel
        by_cases hlt2 : k + 1 < i
        · have hltz2 : (k : Int) < (i : Int) - 1 := by omega
          have HP2 : Hid (PermIn a b d (swp dk k (k + 1))) := permIn_trans _ _ _ _ _ HP.out (swp_permIn _ _ _ _ _ (by omega) (by omega) (by omega) (by omega) (by omega))
          have HQ2 : Hid (∀ x, (swp dk k (k + 1))[x]! = rotAt d a (a + 1) (k + 2) x) := rot_up d a k HQ.out hak (by omega)
          clear HP HQ
          obtain ⟨iN, hiN⟩ : ∃ q, q = k := ⟨_, rfl⟩
          obtain ⟨jN, hjN⟩ : ∃ q, q = k + 1 := ⟨_, rfl⟩
          have ei : ((k : Int)).toNat = iN := by omega
          have pi : (0 : Int) ≤ (k : Int) := by omega
          have bi : (k : Int) < (d.size : Int) := by omega
          have ri : IntKind.i64.wrap ((k : Int)) = (k : Int) := by rw [IntKind.wrap_i64]; omega
          have ej : ((k : Int) + 1).toNat = jN := by omega
          have pj : (0 : Int) ≤ (k : Int) + 1 := by omega
          have bj : (k : Int) + 1 < (d.size : Int) := by omega
          have rj : IntKind.i64.wrap ((k : Int) + 1) = (k : Int) + 1 := by rw [IntKind.wrap_i64]; omega
          obtain ⟨xv, hx⟩ : ∃ x, x = (dk)[k]! := ⟨_, rfl⟩
          obtain ⟨yv, hy⟩ : ∃ x, x = (dk)[k + 1]! := ⟨_, rfl⟩
          have S2 : Aside (SW enc w0 blk off (swp (dk) (k) (k + 1)) ((wr.setCell ⟨blk, off + iN, none⟩ (enc yv)).setCell ⟨blk, off + jN, none⟩ (enc xv)).drew) := by rw [hiN, hjN, hx, hy]; exact SK.out.swapped R (k) (k + 1) (by omega) (by omega)
          have ca := SK.out.c1 R (by omega) (k) (by omega)
          have cb' := SK.out.c1 R (by omega) (k + 1) (by omega)
          have fa := SK.out.f1 R (by omega) (k) (by omega)
          have fb := SK.out.f1 R (by omega) (k + 1) (by omega)
          obtain ⟨uv, cc⟩ := SK.out.c2 R (by omega) (k) (k + 1) (by omega) (by omega) (enc yv)
          rw [← hjN, ← hiN] at cc
          rw [← hx, ← hiN] at ca
          rw [← hy, ← hjN] at cb'
          rw [← hiN] at fa
          rw [← hjN] at fb
          clear SK hx hy hiN hjN
          go_wp2_with fail
          go_big_region_o
          clear ca cb' cc fa fb
          generalize ((wr.setCell ⟨blk, off + iN, none⟩ (enc yv)).setCell ⟨blk, off + jN, none⟩ (enc xv)).drew = w2 at S2 ⊢
          clear ei ej ri rj bi bj pi pj
          go_wp2
          go_roundw
          case rel => exact ⟨k + 1, swp dk k (k + 1), by first | rfl | go_num | (congr 1; omega), by omega, by omega, by rw [size_swp]; exact hsk, HP2, HQ2, S2⟩
          case measure => simp [intOf]; omega
        · have hltz2 : ¬ (k : Int) < (i : Int) - 1 := by omega
          obtain rfl : i = k + 1 := by omega
          have hsrt : SortedIn lt a b dk := ins_left hO (by omega) hjb SR.out HS.out.2.2.2.1 HS.out.2.2.2.2 HQ.out
          have HSRT := Lib.hid hsrt
          clear hsrt
          go_wp2
          (try simp only [Exit.inBlock, Exit.then])
          refine bodyPost_ret (results_none rfl _ _ _) rfl ?_
          exact ⟨rfl, dk, HP.out, HSRT.out, SK.out⟩

/-- Where the right one goes. -/
def SrchR (lt : α → α → Bool) (d : Array α) (a m i j : Nat) : Prop := a ≤ i ∧ i ≤ j ∧ j ≤ m ∧ (a < i → lt d[m]! d[i - 1]! = false) ∧ (j < m → lt d[m]! d[j]! = true)

set_option maxRecDepth 1000000 in
set_option maxHeartbeats 4000000 in
theorem symMerge_right (enc : α → Value) (cf : α → α → Int) (lt : α → α → Bool) (hO : SWO lt) (g : Nat) (cb : Array Value) (blk off cap a m : Nat) (d0 d : Array α) (w0 w : World)
    (eg : ∀ args w, (callFunc g args).run Try.prog w = .ok (.enter g args) w) (hcmp : CmpLays1 Try.prog g cb enc cf blk off d0.size w0)
    (R : Row1 enc w0 blk off d0) (hs : d0.size = d.size) (S : SW enc w0 blk off d w) (ham : a + 1 < m) (hb : m + 1 ≤ d.size) (hsz : d.size < 4611686018427387904)
    (sl : SortedIn lt a m d) (hx : ∀ i, a ≤ i → i < m → lt d[m]! d[i]! = ltOf cf d[m]! d[i]!) :
    Calls Try.prog 54 #[.slice (some ⟨blk, off, none⟩) d.size cap, .int .i64 a, .int .i64 m, .int .i64 ((m : Int) + 1), .func (.func g) #[] cb] w fun e w' => e = .returned (.tuple #[]) ∧
      ∃ d', PermIn a (m + 1) d d' ∧ SortedIn lt a (m + 1) d' ∧ SW enc w0 blk off d' w' := by
  have mixed := mixed_orders
  have hcl0 := R.hO.cells
  simp only [Value.cells] at hcl0
  have hst := R.hO.store Try.prog
  have S0 : Aside (SW enc w0 blk off d w) := S
  have HC : Aside _ := hcmp
  have SL := Lib.hid sl
  have HX := Lib.hid hx
  clear S hcmp sl hx
  have z0 : IntKind.i64.wrap ((m : Int) - (a : Int)) = (m : Int) - (a : Int) := by rw [IntKind.wrap_i64]; omega
  have y0 : ((m : Int) - (a : Int) == 1) = false := beq_eq_false_iff_ne.2 (by omega)
  have z2 : (m : Int) + 1 - (m : Int) = 1 := by omega
  go_enter Try.func54, Try.ntmps54
  go_wp2
  go_loopw [14, 15, 16] (fun vi vj _ wr => ∃ i j : Nat, vi = .int .i64 i ∧ vj = .int .i64 j ∧ i ≤ j ∧ j ≤ m ∧ Hid (SrchR lt d a m i j) ∧ Aside (SW enc w0 blk off d wr)) (fun vi vj _ _ => (intOf vj).toNat - (intOf vi).toNat)
  case atStart => exact ⟨a, m, rfl, rfl, by omega, by omega, ⟨by omega, by omega, by omega, fun h => by omega, fun h => by omega⟩, S0⟩
  case round =>
    clear S0
    obtain ⟨i, j, rfl, rfl, hij, hjb, HS, S1⟩ := hrel
    have hi1 := HS.out.1
    by_cases hlt : i < j
    · have hltz : (i : Int) < (j : Int) := by omega
      obtain ⟨h, hh⟩ : ∃ h, h = (i + j) / 2 := ⟨_, rfl⟩
      have eh : ((i : Int) + (j : Int)) / 2 = (h : Int) := by omega
      have hh1 : i ≤ h := by omega
      have hh2 : h < j := by omega
      clear hh
      go_wp2_with fail
      have HXh := HX.out h (by omega) (by omega)
      cases hlv : ltOf cf d[m]! d[h]! with
      | true =>
        have HN : Hid (SrchR lt d a m i h) := ⟨by omega, by omega, by omega, HS.out.2.2.2.1, fun _ => by rw [HXh]; exact hlv⟩
        clear HXh HS
        obtain ⟨iN, hiN⟩ : ∃ q, q = m := ⟨_, rfl⟩
        obtain ⟨jN, hjN⟩ : ∃ q, q = h := ⟨_, rfl⟩
        have ei : ((m : Int)).toNat = iN := by omega
        have pi : (0 : Int) ≤ (m : Int) := by omega
        have bi : (m : Int) < (d.size : Int) := by omega
        have ri : IntKind.i64.wrap ((m : Int)) = (m : Int) := by rw [IntKind.wrap_i64]; omega
        have ej : ((h : Int)).toNat = jN := by omega
        have pj : (0 : Int) ≤ (h : Int) := by omega
        have bj : (h : Int) < (d.size : Int) := by omega
        have rj : IntKind.i64.wrap ((h : Int)) = (h : Int) := by rw [IntKind.wrap_i64]; omega
        obtain ⟨xv, hx⟩ : ∃ x, x = (d)[m]! := ⟨_, rfl⟩
        obtain ⟨yv, hy⟩ : ∃ x, x = (d)[h]! := ⟨_, rfl⟩
        have la := S1.out.cl R (by omega) (m) (by omega)
        have lb := S1.out.cl R (by omega) (h) (by omega)
        rw [← hx, ← hiN] at la
        rw [← hy, ← hjN] at lb
        have hc := S1.out.cmp HC.out (by omega) xv yv
        have hv : cf xv yv < 0 := by rw [hx, hy]; exact of_decide_eq_true hlv
        have hd : decide (cf xv yv < 0) = true := decide_eq_true hv
        clear hx hy hiN hjN
        go_wp2_with fail
        go_quiet_grown (first | (go_at_fn g; refine Calls.grown_of (hc _ _)))
        have S2 : Aside (SW enc w0 blk off (d) (grow (wr.drewN nq) osq)) := S1.out.grown nq osq
        clear la lb hc S1
        generalize grow (wr.drewN nq) osq = w2 at S2 ⊢
        clear nq osq
        clear ei ej ri rj bi bj pi pj hv hd
        go_wp2
        go_roundw
        case rel => exact ⟨i, h, rfl, rfl, by omega, by omega, HN, S2⟩
        case measure => simp [intOf]; omega
      | false =>
        have HN : Hid (SrchR lt d a m (h + 1) j) := ⟨by omega, by omega, by omega, fun _ => by rw [Nat.add_sub_cancel, HXh]; exact hlv, HS.out.2.2.2.2⟩
        clear HXh HS
        obtain ⟨iN, hiN⟩ : ∃ q, q = m := ⟨_, rfl⟩
        obtain ⟨jN, hjN⟩ : ∃ q, q = h := ⟨_, rfl⟩
        have ei : ((m : Int)).toNat = iN := by omega
        have pi : (0 : Int) ≤ (m : Int) := by omega
        have bi : (m : Int) < (d.size : Int) := by omega
        have ri : IntKind.i64.wrap ((m : Int)) = (m : Int) := by rw [IntKind.wrap_i64]; omega
        have ej : ((h : Int)).toNat = jN := by omega
        have pj : (0 : Int) ≤ (h : Int) := by omega
        have bj : (h : Int) < (d.size : Int) := by omega
        have rj : IntKind.i64.wrap ((h : Int)) = (h : Int) := by rw [IntKind.wrap_i64]; omega
        obtain ⟨xv, hx⟩ : ∃ x, x = (d)[m]! := ⟨_, rfl⟩
        obtain ⟨yv, hy⟩ : ∃ x, x = (d)[h]! := ⟨_, rfl⟩
        have la := S1.out.cl R (by omega) (m) (by omega)
        have lb := S1.out.cl R (by omega) (h) (by omega)
        rw [← hx, ← hiN] at la
        rw [← hy, ← hjN] at lb
        have hc := S1.out.cmp HC.out (by omega) xv yv
        have hv : ¬ cf xv yv < 0 := by rw [hx, hy]; exact of_decide_eq_false hlv
        have hd : decide (cf xv yv < 0) = false := decide_eq_false hv
        clear hx hy hiN hjN
        go_wp2_with fail
        go_quiet_grown (first | (go_at_fn g; refine Calls.grown_of (hc _ _)))
        have S2 : Aside (SW enc w0 blk off (d) (grow (wr.drewN nq) osq)) := S1.out.grown nq osq
        clear la lb hc S1
        generalize grow (wr.drewN nq) osq = w2 at S2 ⊢
        clear nq osq
        clear ei ej ri rj bi bj pi pj hv hd
        go_wp2
        go_roundw
        case rel => exact ⟨h + 1, j, by first | rfl | go_num | (congr 1; omega), rfl, by omega, by omega, HN, S2⟩
        case measure => simp [intOf]; omega
    · have hltz : ¬ (i : Int) < (j : Int) := by omega
      obtain rfl : i = j := by omega
      have P0 : Hid (PermIn a (m + 1) d d) := permIn_refl _ _ _
      have Q0 : Hid (∀ x, d[x]! = rotAt d m m (m + 1) x) := fun x => (rot_none_l d m (m + 1) x).symm
      go_wp2
      go_loopw [17] (fun vk wr => ∃ (k : Nat) (dk : Array α), vk = .int .i64 k ∧ i ≤ k ∧ k ≤ m ∧ dk.size = d.size ∧ Hid (PermIn a (m + 1) d dk) ∧ Hid (∀ x, dk[x]! = rotAt d k m (m + 1) x) ∧ Aside (SW enc w0 blk off dk wr)) (fun vk _ => (intOf vk).toNat)
      case atStart => exact ⟨m, d, rfl, by omega, by omega, rfl, P0, Q0, S1⟩
      case round =>
        clear S1 P0 Q0
        obtain ⟨k, dk, rfl, hik, hkm, hsk, HP, HQ, SK⟩ := hrel
        by_cases hlt2 : i < k
        · obtain ⟨kp, hkp⟩ : ∃ q, q + 1 = k := ⟨k - 1, by omega⟩
          have zkp : (k : Int) = (kp : Int) + 1 := by omega
          have hltz2 : (i : Int) < (kp : Int) + 1 := by omega
          have HP2 : Hid (PermIn a (m + 1) d (swp dk k kp)) := permIn_trans _ _ _ _ _ HP.out (swp_permIn _ _ _ _ _ (by omega) (by omega) (by omega) (by omega) (by omega))
          have HQ2 : Hid (∀ x, (swp dk k kp)[x]! = rotAt d kp m (m + 1) x) := by subst hkp; exact rot_down d m kp HQ.out (by omega) (by omega)
          clear HP HQ
          obtain ⟨iN, hiN⟩ : ∃ q, q = k := ⟨_, rfl⟩
          obtain ⟨jN, hjN⟩ : ∃ q, q = kp := ⟨_, rfl⟩
          have ei : ((kp : Int) + 1).toNat = iN := by omega
          have pi : (0 : Int) ≤ (kp : Int) + 1 := by omega
          have bi : (kp : Int) + 1 < (d.size : Int) := by omega
          have ri : IntKind.i64.wrap ((kp : Int) + 1) = (kp : Int) + 1 := by rw [IntKind.wrap_i64]; omega
          have ej : ((kp : Int)).toNat = jN := by omega
          have pj : (0 : Int) ≤ (kp : Int) := by omega
          have bj : (kp : Int) < (d.size : Int) := by omega
          have rj : IntKind.i64.wrap ((kp : Int)) = (kp : Int) := by rw [IntKind.wrap_i64]; omega
          obtain ⟨xv, hx⟩ : ∃ x, x = (dk)[k]! := ⟨_, rfl⟩
          obtain ⟨yv, hy⟩ : ∃ x, x = (dk)[kp]! := ⟨_, rfl⟩
          have S2 : Aside (SW enc w0 blk off (swp (dk) (k) (kp)) ((wr.setCell ⟨blk, off + iN, none⟩ (enc yv)).setCell ⟨blk, off + jN, none⟩ (enc xv)).drew) := by rw [hiN, hjN, hx, hy]; exact SK.out.swapped R (k) (kp) (by omega) (by omega)
          have ca := SK.out.c1 R (by omega) (k) (by omega)
          have cb' := SK.out.c1 R (by omega) (kp) (by omega)
          have fa := SK.out.f1 R (by omega) (k) (by omega)
          have fb := SK.out.f1 R (by omega) (kp) (by omega)
          obtain ⟨uv, cc⟩ := SK.out.c2 R (by omega) (k) (kp) (by omega) (by omega) (enc yv)
          rw [← hjN, ← hiN] at cc
          rw [← hx, ← hiN] at ca
          rw [← hy, ← hjN] at cb'
          rw [← hiN] at fa
          rw [← hjN] at fb
          clear SK hx hy hiN hjN
          go_wp2_with fail
          go_big_region_o
          clear ca cb' cc fa fb
          generalize ((wr.setCell ⟨blk, off + iN, none⟩ (enc yv)).setCell ⟨blk, off + jN, none⟩ (enc xv)).drew = w2 at S2 ⊢
          clear ei ej ri rj bi bj pi pj
          go_wp2
          go_roundw
          case rel => exact ⟨kp, swp dk k kp, by first | rfl | go_num | (congr 1; omega), by omega, by omega, by rw [size_swp]; exact hsk, HP2, HQ2, S2⟩
          case measure => simp [intOf]; omega
        · have hltz2 : ¬ (i : Int) < (k : Int) := by omega
          obtain rfl : i = k := by omega
          have hsrt : SortedIn lt a (m + 1) dk := ins_right hO (by omega) (by omega) SL.out HS.out.2.2.2.1 HS.out.2.2.2.2 HQ.out
          have HSRT := Lib.hid hsrt
          clear hsrt
          go_wp2
          (try simp only [Exit.inBlock, Exit.then])
          refine bodyPost_ret (results_none rfl _ _ _) rfl ?_
          exact ⟨rfl, dk, HP.out, HSRT.out, SK.out⟩

end Go.Proofs.Ytcpacgflljmlaaa.G4
