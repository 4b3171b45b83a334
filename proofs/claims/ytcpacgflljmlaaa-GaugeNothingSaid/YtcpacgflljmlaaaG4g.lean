/-
  Layer 4, walks: the library's merge in place, as it goes on in both halves.
-/
import Derived.Test.YtcpacgflljmlaaaG4f
import Derived.Deep.DeepCutAuto
namespace Go.Proofs.Ytcpacgflljmlaaa.G4
open Go.Shelf Go.RowKit Go.Lib Go.Sort
set_option linter.unusedVariables false
variable {α : Type} [Inhabited α]

/-- Where the halves are cut. -/
def SrchM (lt : α → α → Bool) (d : Array α) (p s0 r0 s r : Nat) : Prop := (s0 < s → lt d[p - (s - 1)]! d[s - 1]! = false) ∧ (r < r0 → lt d[p - r]! d[r]! = true)
def Start (a m b mid s0 r0 : Nat) : Prop := (mid < m ∧ s0 = mid + m - b ∧ r0 = mid) ∨ (m ≤ mid ∧ s0 = a ∧ r0 = m)

theorem cut_of {lt : α → α → Bool} {d : Array α} {a m b mid s0 r0 st : Nat} (ham : a < m) (hmb : m < b) (hmid : mid = (a + b) / 2) (hz : Start a m b mid s0 r0) (h0 : s0 ≤ st) (h1 : st ≤ r0)
    (hs : SrchM lt d (mid + m - 1) s0 r0 st st) : Cut lt d a m b mid st (mid + m - st) := by
  obtain ⟨hl, hh⟩ := hs
  unfold Start at hz
  refine ⟨by omega, by omega, by omega, by omega, by omega, fun h2 h3 => ?_, fun h2 h3 => ?_⟩
  · have := hl (by omega)
    rwa [show mid + m - 1 - (st - 1) = mid + m - st by omega] at this
  · have := hh (by omega)
    rwa [show mid + m - 1 - st = mid + m - st - 1 by omega] at this
theorem start_in {a m b mid s0 r0 : Nat} (ham : a < m) (hmb : m < b) (hmid : mid = (a + b) / 2) (hz : Start a m b mid s0 r0) : a ≤ s0 ∧ s0 ≤ r0 ∧ r0 ≤ m ∧ r0 ≤ mid ∧ mid + m - r0 ≤ b ∧ m ≤ mid + m - r0 ∧ mid + m - s0 ≤ b ∧ m ≤ mid + m - s0 := by
  unfold Start at hz; omega

/-- What a call of the merge does. -/
def Merges (lt : α → α → Bool) (enc : α → Value) (cf : α → α → Int) (g : Nat) (cb : Array Value) (blk off cap : Nat) (w0 : World) (n a m b : Nat) : Prop :=
  ∀ (d : Array α) (w : World), d.size = n → SW enc w0 blk off d w → a < m → m < b → b ≤ n → SortedIn lt a m d → SortedIn lt m b d →
    (∀ i j, a ≤ i → i < m → m ≤ j → j < b → lt d[j]! d[i]! = ltOf cf d[j]! d[i]!) →
    Calls Try.prog 54 #[.slice (some ⟨blk, off, none⟩) n cap, .int .i64 a, .int .i64 m, .int .i64 b, .func (.func g) #[] cb] w fun e w' => e = .returned (.tuple #[]) ∧
      ∃ d', PermIn a b d d' ∧ SortedIn lt a b d' ∧ SW enc w0 blk off d' w'

set_option maxRecDepth 1000000 in
set_option maxHeartbeats 16000000 in
theorem symMerge_step (enc : α → Value) (cf : α → α → Int) (lt : α → α → Bool) (hO : SWO lt) (g : Nat) (cb : Array Value) (blk off cap a m b : Nat) (d0 d : Array α) (w0 w : World)
    (eg : ∀ args w, (callFunc g args).run Try.prog w = .ok (.enter g args) w) (hcmp : CmpLays1 Try.prog g cb enc cf blk off d0.size w0)
    (R : Row1 enc w0 blk off d0) (hs : d0.size = d.size) (S : SW enc w0 blk off d w) (ham : a + 1 < m) (hmb : m + 1 < b) (hb : b ≤ d.size) (hsz : d.size < 4611686018427387904)
    (sl : SortedIn lt a m d) (sr : SortedIn lt m b d) (hx : ∀ i j, a ≤ i → i < m → m ≤ j → j < b → lt d[j]! d[i]! = ltOf cf d[j]! d[i]!)
    (rec : ∀ a' m' b', b' - a' < b - a → Merges lt enc cf g cb blk off cap w0 d.size a' m' b') :
    Calls Try.prog 54 #[.slice (some ⟨blk, off, none⟩) d.size cap, .int .i64 a, .int .i64 m, .int .i64 b, .func (.func g) #[] cb] w fun e w' => e = .returned (.tuple #[]) ∧
      ∃ d', PermIn a b d d' ∧ SortedIn lt a b d' ∧ SW enc w0 blk off d' w' := by
  have mixed := mixed_orders
  have hcl0 := R.hO.cells
  simp only [Value.cells] at hcl0
  have hst := R.hO.store Try.prog
  have S0 : Aside (SW enc w0 blk off d w) := S
  have HC : Aside _ := hcmp
  have SL := Lib.hid sl
  have SR := Lib.hid sr
  have HX := Lib.hid hx
  have REC := Lib.hid rec
  clear S hcmp sl sr hx rec
  obtain ⟨mid, hmid⟩ : ∃ q, q = (a + b) / 2 := ⟨_, rfl⟩
  have z0 : IntKind.i64.wrap ((m : Int) - (a : Int)) = (m : Int) - (a : Int) := by rw [IntKind.wrap_i64]; omega
  have y0 : ((m : Int) - (a : Int) == 1) = false := beq_eq_false_iff_ne.2 (by omega)
  have z1 : IntKind.i64.wrap ((b : Int) - (m : Int)) = (b : Int) - (m : Int) := by rw [IntKind.wrap_i64]; omega
  have y1 : ((b : Int) - (m : Int) == 1) = false := beq_eq_false_iff_ne.2 (by omega)
  have em : ((a : Int) + (b : Int)) / 2 = (mid : Int) := by omega
  have HM := Lib.hid hmid
  have bm : mid ≤ b := by omega
  clear hmid
  go_enter Try.func54, Try.ntmps54
  go_upto_if 140 with fail
  clear z0 y0 z1 y1 em
  go_cut [20, 21] from 138 to 146 (fun s r wx => ∃ s0 r0 : Nat, s = .int .i64 s0 ∧ r = .int .i64 r0 ∧ Hid (Start a m b mid s0 r0) ∧ Aside (SW enc w0 blk off d wx))
  case first =>
    by_cases hm : mid < m
    · have hm1 : (mid : Int) < (m : Int) := by omega
      have hmo := HM.out
      have zz : IntKind.i64.wrap ((mid : Int) + (m : Int) - (b : Int)) = ((mid + m - b : Nat) : Int) := by rw [IntKind.wrap_i64]; omega
      have zz2 : (mid : Int) + (m : Int) - (b : Int) = ((mid + m - b : Nat) : Int) := by omega
      clear hmo
      go_wp2
      go_meet
      exact ⟨mid + m - b, mid, by first | rfl | go_num | (congr 1; omega), rfl, .inl ⟨hm, rfl, rfl⟩, S0⟩
    · have hm1 : ¬ (mid : Int) < (m : Int) := by omega
      go_wp2
      go_meet
      exact ⟨a, m, rfl, rfl, .inr ⟨by omega, rfl, rfl⟩, S0⟩
  case rest =>
    clear S0
    obtain ⟨s0, r0, rfl, rfl, HZ, S1⟩ := hcut
    have hin := start_in (by omega) (by omega) HM.out HZ.out
    obtain ⟨i1, i2, i3, i4, i5, i6, i7, i8⟩ := hin
    obtain ⟨pp, hpp⟩ : ∃ q, q = mid + m - 1 := ⟨_, rfl⟩
    have ep : (mid : Int) + (m : Int) - 1 = (pp : Int) := by omega
    have HPP := Lib.hid hpp
    clear hpp
    go_wp2
    clear ep
    go_loopw [20, 21, 23] (fun vs vr _ wr => ∃ s r : Nat, vs = .int .i64 s ∧ vr = .int .i64 r ∧ s0 ≤ s ∧ s ≤ r ∧ r ≤ r0 ∧ Hid (SrchM lt d pp s0 r0 s r) ∧ Aside (SW enc w0 blk off d wr)) (fun vs vr _ _ => (intOf vr).toNat - (intOf vs).toNat)
    case atStart => exact ⟨s0, r0, rfl, rfl, by omega, by omega, by omega, ⟨fun h => by omega, fun h => by omega⟩, S1⟩
    case round =>
      clear S1
      obtain ⟨s, r, rfl, rfl, hs0, hsr, hr0, HS, S1⟩ := hrel
      by_cases hlt : s < r
      · have hltz : (s : Int) < (r : Int) := by omega
        obtain ⟨c, hh⟩ : ∃ h, h = (s + r) / 2 := ⟨_, rfl⟩
        have eh : ((s : Int) + (r : Int)) / 2 = (c : Int) := by omega
        have hh1 : s ≤ c := by omega
        have hh2 : c < r := by omega
        clear hh
        have hppo := HPP.out
        obtain ⟨pc, hq⟩ : ∃ q, q = pp - c := ⟨_, rfl⟩
        have zq : (pp : Int) - (c : Int) = (pc : Int) := by omega
        have bq1 : m ≤ pc := by omega
        have bq2 : pc < b := by omega
        have HQ := Lib.hid hq
        clear hppo hq
        go_wp2_with fail
        have HXh := HX.out c pc (by omega) (by omega) (by omega) (by omega)
        cases hlv : ltOf cf d[pc]! d[c]! with
        | true =>
          have HN : Hid (SrchM lt d pp s0 r0 s c) := ⟨HS.out.1, fun _ => by rw [← HQ.out, HXh]; exact hlv⟩
          clear HXh HS
          obtain ⟨iN, hiN⟩ : ∃ q, q = pc := ⟨_, rfl⟩
          obtain ⟨jN, hjN⟩ : ∃ q, q = c := ⟨_, rfl⟩
          have ei : ((pc : Int)).toNat = iN := by omega
          have pi : (0 : Int) ≤ (pc : Int) := by omega
          have bi : (pc : Int) < (d.size : Int) := by omega
          have ri : IntKind.i64.wrap ((pc : Int)) = (pc : Int) := by rw [IntKind.wrap_i64]; omega
          have ej : ((c : Int)).toNat = jN := by omega
          have pj : (0 : Int) ≤ (c : Int) := by omega
          have bj : (c : Int) < (d.size : Int) := by omega
          have rj : IntKind.i64.wrap ((c : Int)) = (c : Int) := by rw [IntKind.wrap_i64]; omega
          obtain ⟨xv, hx⟩ : ∃ x, x = (d)[pc]! := ⟨_, rfl⟩
          obtain ⟨yv, hy⟩ : ∃ x, x = (d)[c]! := ⟨_, rfl⟩
          have la := S1.out.cl R (by omega) (pc) (by omega)
          have lb := S1.out.cl R (by omega) (c) (by omega)
          rw [← hx, ← hiN] at la
          rw [← hy, ← hjN] at lb
          have hc := S1.out.cmp HC.out (by omega) xv yv
          have hv : cf xv yv < 0 := by rw [hx, hy]; exact of_decide_eq_true hlv
          have hd : decide (cf xv yv < 0) = true := decide_eq_true hv
          clear hx hy hiN hjN
          go_wp2_with fail
          go_quiet_grown (first | (go_at_fn g; refine Calls.grown_of (hc _ _)))
          have S2 : Aside (SW enc w0 blk off (d) (grow (wr.drewN nq) osq)) := S1.out.grown nq osq
          clear la lb hc S1
          generalize grow (wr.drewN nq) osq = w2 at S2 ⊢
          clear nq osq
          clear ei ej ri rj bi bj pi pj hv hd
          go_wp2
          go_roundw
          case rel => exact ⟨s, c, rfl, rfl, by omega, by omega, by omega, HN, S2⟩
          case measure => simp [intOf]; omega
        | false =>
          have HN : Hid (SrchM lt d pp s0 r0 (c + 1) r) := ⟨fun _ => by rw [Nat.add_sub_cancel, ← HQ.out, HXh]; exact hlv, HS.out.2⟩
          clear HXh HS
          obtain ⟨iN, hiN⟩ : ∃ q, q = pc := ⟨_, rfl⟩
          obtain ⟨jN, hjN⟩ : ∃ q, q = c := ⟨_, rfl⟩
          have ei : ((pc : Int)).toNat = iN := by omega
          have pi : (0 : Int) ≤ (pc : Int) := by omega
          have bi : (pc : Int) < (d.size : Int) := by omega
          have ri : IntKind.i64.wrap ((pc : Int)) = (pc : Int) := by rw [IntKind.wrap_i64]; omega
          have ej : ((c : Int)).toNat = jN := by omega
          have pj : (0 : Int) ≤ (c : Int) := by omega
          have bj : (c : Int) < (d.size : Int) := by omega
          have rj : IntKind.i64.wrap ((c : Int)) = (c : Int) := by rw [IntKind.wrap_i64]; omega
          obtain ⟨xv, hx⟩ : ∃ x, x = (d)[pc]! := ⟨_, rfl⟩
          obtain ⟨yv, hy⟩ : ∃ x, x = (d)[c]! := ⟨_, rfl⟩
          have la := S1.out.cl R (by omega) (pc) (by omega)
          have lb := S1.out.cl R (by omega) (c) (by omega)
          rw [← hx, ← hiN] at la
          rw [← hy, ← hjN] at lb
          have hc := S1.out.cmp HC.out (by omega) xv yv
          have hv : ¬ cf xv yv < 0 := by rw [hx, hy]; exact of_decide_eq_false hlv
          have hd : decide (cf xv yv < 0) = false := decide_eq_false hv
          clear hx hy hiN hjN
          go_wp2_with fail
          go_quiet_grown (first | (go_at_fn g; refine Calls.grown_of (hc _ _)))
          have S2 : Aside (SW enc w0 blk off (d) (grow (wr.drewN nq) osq)) := S1.out.grown nq osq
          clear la lb hc S1
          generalize grow (wr.drewN nq) osq = w2 at S2 ⊢
          clear nq osq
          clear ei ej ri rj bi bj pi pj hv hd
          go_wp2
          go_roundw
          case rel => exact ⟨c + 1, r, by first | rfl | go_num | (congr 1; omega), rfl, by omega, by omega, by omega, HN, S2⟩
          case measure => simp [intOf]; omega
      · have hltz : ¬ (s : Int) < (r : Int) := by omega
        obtain rfl : s = r := by omega
        obtain ⟨e, he⟩ : ∃ q, q = mid + m - s := ⟨_, rfl⟩
        have ee : (mid : Int) + (m : Int) - (s : Int) = (e : Int) := by omega
        have hcut : Cut lt d a m b mid s e := by rw [he]; exact cut_of (by omega) (by omega) HM.out HZ.out hs0 hr0 (by rw [← HPP.out]; exact HS.out)
        have CUT := Lib.hid hcut
        obtain ⟨c1, c2, c3, c4, c5, _, _⟩ := hcut
        clear HS HZ he
        go_upto_region 39 with fail
        clear ee
        go_cut [185] from 178 to 185 (fun x wx => ∃ X : Bool, x = .bool X ∧ Hid (X = true ↔ s < m ∧ m < e) ∧ Aside (SW enc w0 blk off d wx))
        case first =>
          by_cases h1 : s < m
          · have h1z : (s : Int) < (m : Int) := by omega
            by_cases h2 : m < e
            · have h2z : (m : Int) < (e : Int) := by omega
              go_wp2
              go_meet
              exact ⟨true, rfl, Lib.hid ⟨fun _ => ⟨h1, h2⟩, fun _ => rfl⟩, S1⟩
            · have h2z : ¬ ((m : Int) < (e : Int)) := by omega
              go_wp2
              go_meet
              exact ⟨false, rfl, Lib.hid ⟨fun h => (by cases h), fun h => absurd h.2 h2⟩, S1⟩
          · have h1z : ¬ ((s : Int) < (m : Int)) := by omega
            go_wp2
            go_meet
            exact ⟨false, rfl, Lib.hid ⟨fun h => (by cases h), fun h => absurd h.1 h1⟩, S1⟩
        case rest =>
        clear S1
        obtain ⟨X, rfl, HX', S1⟩ := hcut
        go_upto_if 185 with fail
        go_cut [] from 178 to 191 (fun wx => ∃ d1 : Array α, d1.size = d.size ∧ Hid (PermIn a b d d1) ∧ Hid (∀ x, d1[x]! = rotAt d s m e x) ∧ Aside (SW enc w0 blk off d1 wx))
        case first =>
          cases X with
          | true =>
            obtain ⟨h1, h2⟩ := HX'.out.1 rfl
            have hc := rotate_s enc g cb blk off cap s m e d0 d w0 wc R hs S1.out h1 h2 (by omega) hsz
            clear S1
            go_wp2_with fail
            refine hc.mono ?_
            rintro e1 w1 ⟨rfl, d1, p1, q1, s1⟩
            have S2 : Aside (SW enc w0 blk off d1 w1) := s1
            have P1 := Lib.hid (permIn_mono _ _ _ _ a b c1 c4 hb p1)
            have Z1 := Lib.hid p1.1
            have Q1 := Lib.hid q1
            clear s1 hc p1 q1
            go_wp2
            go_meet
            exact ⟨d1, Z1.out, P1, Q1, S2⟩
          | false =>
            have P1 : Hid (PermIn a b d d) := permIn_refl _ _ _
            have Q1 : Hid (∀ x, d[x]! = rotAt d s m e x) := fun x => by
              have h : ¬ (s < m ∧ m < e) := fun h => by have := HX'.out.2 h; cases this
              by_cases h1 : s < m
              · obtain rfl : m = e := by omega
                exact (rot_none_r d s m x).symm
              · obtain rfl : s = m := by omega
                exact (rot_none_l d s e x).symm
            go_wp2
            go_meet
            exact ⟨d, rfl, P1, Q1, S1⟩
        case rest =>
        clear S1 HX'
        obtain ⟨d1, hz1, P1, Q1, S1⟩ := hcut
        have hparts := CUT.out.parts hO SL.out SR.out Q1.out
        have hfour := CUT.out.four SL.out SR.out Q1.out
        have hcross := CUT.out.cross (X := fun x y => lt y x = ltOf cf y x) Q1.out HX.out
        have PARTS := Lib.hid hparts
        have FOUR := Lib.hid hfour
        have CROSS := Lib.hid hcross
        clear hparts hfour hcross
        go_upto_region 41 with fail
        go_cut [199] from 192 to 199 (fun x wx => ∃ X : Bool, x = .bool X ∧ Hid (X = true ↔ a < s ∧ s < mid) ∧ Aside (SW enc w0 blk off d1 wx))
        case first =>
          by_cases h1 : a < s
          · have h1z : (a : Int) < (s : Int) := by omega
            by_cases h2 : s < mid
            · have h2z : (s : Int) < (mid : Int) := by omega
              go_wp2
              go_meet
              exact ⟨true, rfl, Lib.hid ⟨fun _ => ⟨h1, h2⟩, fun _ => rfl⟩, S1⟩
            · have h2z : ¬ ((s : Int) < (mid : Int)) := by omega
              go_wp2
              go_meet
              exact ⟨false, rfl, Lib.hid ⟨fun h => (by cases h), fun h => absurd h.2 h2⟩, S1⟩
          · have h1z : ¬ ((a : Int) < (s : Int)) := by omega
            go_wp2
            go_meet
            exact ⟨false, rfl, Lib.hid ⟨fun h => (by cases h), fun h => absurd h.1 h1⟩, S1⟩
        case rest =>
        clear S1
        obtain ⟨Y, rfl, HY, S1⟩ := hcut
        go_upto_if 199 with fail
        go_cut [] from 192 to 205 (fun wx => ∃ d2 : Array α, Hid (PermIn a mid d1 d2) ∧ Hid (SortedIn lt a mid d2) ∧ Aside (SW enc w0 blk off d2 wx))
        case first =>
          cases Y with
          | true =>
            obtain ⟨h1, h2⟩ := HY.out.1 rfl
            have hmo := HM.out
            have hc := REC.out a s mid (by omega) d1 wc hz1 S1.out h1 h2 (by omega) FOUR.out.1 FOUR.out.2.1 CROSS.out.1
            clear S1 hmo
            go_wp2_with fail
            refine hc.mono ?_
            rintro e1 w1 ⟨rfl, d2, p2, q2, s2⟩
            have S2 : Aside (SW enc w0 blk off d2 w1) := s2
            have P2 := Lib.hid p2
            have Q2 := Lib.hid q2
            clear s2 hc p2 q2
            go_wp2
            go_meet
            exact ⟨d2, P2, Q2, S2⟩
          | false =>
            have P2 : Hid (PermIn a mid d1 d1) := permIn_refl _ _ _
            have Q2 : Hid (SortedIn lt a mid d1) := by
              have h : ¬ (a < s ∧ s < mid) := fun h => by have := HY.out.2 h; cases this
              by_cases h1 : a < s
              · obtain rfl : s = mid := by omega
                exact FOUR.out.1
              · obtain rfl : a = s := by omega
                exact FOUR.out.2.1
            go_wp2
            go_meet
            exact ⟨d1, P2, Q2, S1⟩
        case rest =>
        clear S1 HY
        obtain ⟨d2, P2, Q2, S1⟩ := hcut
        have hz2 : d2.size = d.size := P2.out.1.trans hz1
        have hk2 : ∀ i, mid ≤ i → d2[i]! = d1[i]! := fun i hi => P2.out.2.1 i (.inr hi)
        have K2 := Lib.hid hk2
        clear hk2
        go_upto_region 43 with fail
        go_cut [213] from 206 to 213 (fun x wx => ∃ X : Bool, x = .bool X ∧ Hid (X = true ↔ mid < e ∧ e < b) ∧ Aside (SW enc w0 blk off d2 wx))
        case first =>
          by_cases h1 : mid < e
          · have h1z : (mid : Int) < (e : Int) := by omega
            by_cases h2 : e < b
            · have h2z : (e : Int) < (b : Int) := by omega
              go_wp2
              go_meet
              exact ⟨true, rfl, Lib.hid ⟨fun _ => ⟨h1, h2⟩, fun _ => rfl⟩, S1⟩
            · have h2z : ¬ ((e : Int) < (b : Int)) := by omega
              go_wp2
              go_meet
              exact ⟨false, rfl, Lib.hid ⟨fun h => (by cases h), fun h => absurd h.2 h2⟩, S1⟩
          · have h1z : ¬ ((mid : Int) < (e : Int)) := by omega
            go_wp2
            go_meet
            exact ⟨false, rfl, Lib.hid ⟨fun h => (by cases h), fun h => absurd h.1 h1⟩, S1⟩
        case rest =>
        clear S1
        obtain ⟨Z, rfl, HZ, S1⟩ := hcut
        have hend : ∀ d3 : Array α, PermIn mid b d2 d3 → SortedIn lt mid b d3 → PermIn a b d d3 ∧ SortedIn lt a b d3 := fun d3 p3 q3 => by
          have := halves (by omega) (by omega) (by omega) PARTS.out P2.out Q2.out p3 q3
          exact ⟨permIn_trans _ _ _ _ _ P1.out this.1, this.2⟩
        have HE := Lib.hid hend
        clear hend
        cases Z with
        | true =>
          obtain ⟨h1, h2⟩ := HZ.out.1 rfl
          have hf : SortedIn lt mid e d2 ∧ SortedIn lt e b d2 := by
            obtain ⟨_, _, f3, f4⟩ := FOUR.out
            refine ⟨fun i j x1 x2 x3 => ?_, fun i j x1 x2 x3 => ?_⟩
            · rw [K2.out i (by omega), K2.out j (by omega)]; exact f3 i j x1 x2 x3
            · rw [K2.out i (by omega), K2.out j (by omega)]; exact f4 i j x1 x2 x3
          have hcr : ∀ i j, mid ≤ i → i < e → e ≤ j → j < b → lt d2[j]! d2[i]! = ltOf cf d2[j]! d2[i]! := fun i j x1 x2 x3 x4 => by
            rw [K2.out i (by omega), K2.out j (by omega)]; exact CROSS.out.2 i j x1 x2 x3 x4
          have hmo := HM.out
          have hc := REC.out mid e b (by omega) d2 wc hz2 S1.out h1 h2 hb hf.1 hf.2 hcr
          clear S1 hf hcr hmo
          go_wp2_with fail
          refine hc.mono ?_
          rintro e1 w1 ⟨rfl, d3, p3, q3, s3⟩
          have S2 : Aside (SW enc w0 blk off d3 w1) := s3
          have P3 := Lib.hid (HE.out d3 p3 q3)
          clear s3 hc p3 q3
          go_wp2
          go_end0
          exact ⟨rfl, d3, P3.out.1, P3.out.2, S2.out⟩
        | false =>
          have P3 : Hid (PermIn a b d d2 ∧ SortedIn lt a b d2) := by
            refine HE.out d2 (permIn_refl _ _ _) ?_
            have h : ¬ (mid < e ∧ e < b) := fun h => by have := HZ.out.2 h; cases this
            obtain ⟨_, _, f3, f4⟩ := FOUR.out
            by_cases h1 : mid < e
            · obtain rfl : e = b := by omega
              intro i j x1 x2 x3
              rw [K2.out i (by omega), K2.out j (by omega)]; exact f3 i j x1 x2 x3
            · obtain rfl : mid = e := by omega
              intro i j x1 x2 x3
              rw [K2.out i (by omega), K2.out j (by omega)]; exact f4 i j x1 x2 x3
          go_wp2
          go_end0
          exact ⟨rfl, d2, P3.out.1, P3.out.2, S1.out⟩

set_option maxRecDepth 100000 in
/-- THE MERGE IN PLACE. -/
theorem symMerge_any (enc : α → Value) (cf : α → α → Int) (lt : α → α → Bool) (hO : SWO lt) (g : Nat) (cb : Array Value) (blk off cap : Nat) (d0 : Array α) (w0 : World)
    (eg : ∀ args w, (callFunc g args).run Try.prog w = .ok (.enter g args) w) (hcmp : CmpLays1 Try.prog g cb enc cf blk off d0.size w0)
    (R : Row1 enc w0 blk off d0) (hsz : d0.size < 4611686018427387904) : ∀ (N a m b : Nat), b - a ≤ N → Merges lt enc cf g cb blk off cap w0 d0.size a m b
  | 0, a, m, b, hN => fun d w hs S h1 h2 => by omega
  | N + 1, a, m, b, hN => fun d w hs S h1 h2 h3 sl sr hx => by
    rw [← hs]
    by_cases hl : m = a + 1
    · subst hl
      exact symMerge_left enc cf lt hO g cb blk off cap a b d0 d w0 w eg hcmp R hs.symm S h2 (by omega) (by omega) sr (fun j x1 x2 => hx a j (by omega) (by omega) x1 x2)
    · by_cases hr : b = m + 1
      · subst hr
        exact symMerge_right enc cf lt hO g cb blk off cap a m d0 d w0 w eg hcmp R hs.symm S (by omega) (by omega) (by omega) sl (fun i x1 x2 => hx i m x1 x2 (by omega) (by omega))
      · exact symMerge_step enc cf lt hO g cb blk off cap a m b d0 d w0 w eg hcmp R hs.symm S (by omega) (by omega) (by omega) (by omega) sl sr hx
          (fun a' m' b' h => by rw [hs]; exact symMerge_any enc cf lt hO g cb blk off cap d0 w0 eg hcmp R hsz N a' m' b' (by omega))

end Go.Proofs.Ytcpacgflljmlaaa.G4
