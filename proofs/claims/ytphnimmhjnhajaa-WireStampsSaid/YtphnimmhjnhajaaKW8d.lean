/-
  Layer 8, walks: lists of stamps, of ids, of numbers compared.
-/
import Derived.Test.YtphnimmhjnhajaaKW8b
namespace Go.Proofs.Ytphnimmhjnhajaa.W8
open Go.RowKit Go.PlainAid M8
set_option linter.unusedVariables false

theorem eq_of_get {α : Type} {l m : List α} (hl : l.length = m.length) (h : ∀ j (hj : j < l.length) (hj' : j < m.length), l[j] = m[j]) : l = m := List.ext_getElem hl fun j h1 h2 => h j h1 h2
theorem ret1b {a b : Bool} (h : a = b) : Ending.returned (.bool a) = Ending.returned (.bool b) := by rw [h]

set_option maxRecDepth 100000 in
set_option maxHeartbeats 1000000 in
theorem sameDots_any (A B : Option Addr) (n m c d : Nat) (l l' : List (Int × Int)) (w : World) (ha : Rd w A (l.flatMap stampC)) (hb : Rd w B (l'.flatMap stampC)) (hn : l.length = n) (hm : l'.length = m) (hle : n ≤ 9223372036854775807) (hlm : m ≤ 9223372036854775807) :
    Calls Try.prog 30 #[.slice A n c, .slice B m d] w fun e w' => e = .returned (.bool (decide (l = l'))) ∧ Below w.heap.size w w' := by
  subst hn
  subst hm
  have HA := Lib.hid ha
  have HB := Lib.hid hb
  clear ha hb
  by_cases hlen : l.length = l'.length
  · have hq : ((l.length : Int) != (l'.length : Int)) = false := by simp [hlen]
    have HLEN := Lib.hid hlen
    have hl1 : l.length ≤ l'.length := by omega
    have hl2 : l'.length ≤ l.length := by omega
    clear hlen
    go_enter Try.func30, Try.ntmps30
    go_wp2
    clear hq
    go_loopw [5] (fun i wr => ∃ k : Nat, k ≤ l.length ∧ i = .int .i64 (k : Int) ∧ (∀ j (hj : j < l.length) (hj' : j < l'.length), j < k → l[j] = l'[j]) ∧ Below w.heap.size w wr) (fun i _ => l.length - (intOf i).toNat)
    case atStart => exact ⟨0, by omega, rfl, fun j _ _ hj => absurd hj (by omega), Below.refl _ _⟩
    case round =>
      obtain ⟨k, hk, rfl, hs, hbw⟩ := hrel
      by_cases hlt : k < l.length
      · have hlt' : k < l'.length := by omega
        have h1 := HA.out.keep hbw
        have h2 := HB.out.keep hbw
        obtain ⟨b, off, rfl, hbl, hc⟩ := rd_cells h1 (c := 2) (fun _ _ => rfl) (by omega) hlt
        obtain ⟨b', off', rfl, hbl', hc'⟩ := rd_cells h2 (c := 2) (fun _ _ => rfl) (by omega) hlt'
        clear h1 h2
        by_cases he : l[k] = l'[k]
        · have hs2 : ∀ j (hj : j < l.length) (hj' : j < l'.length), j < k + 1 → l[j] = l'[j] := fun j hj hj' h => by
            by_cases h2 : j < k
            · exact hs j hj hj' h2
            · obtain rfl : j = k := by omega
              exact he
          have HS2 := Lib.hid hs2
          rw [he] at hc
          clear hs hs2 he
          generalize l'[k] = x at hc hc'
          have p0 : wr.cell? ⟨b, off + k * 2, none⟩ = some (.int .i64 x.1) := hc 0 (by omega)
          have q0 : wr.cell? ⟨b', off' + k * 2, none⟩ = some (.int .i64 x.1) := hc' 0 (by omega)
          have p1 : wr.cell? ⟨b, off + k * 2 + 1, none⟩ = some (.int .i64 x.2) := hc 1 (by omega)
          have q1 : wr.cell? ⟨b', off' + k * 2 + 1, none⟩ = some (.int .i64 x.2) := hc' 1 (by omega)
          clear hc hc'
          go_wp2
          go_quiet (fail)
          go_wp2
          go_roundw
          case rel => exact ⟨k + 1, by omega, by go_num, HS2.out, below_drewN hbw nq⟩
          case measure => simp [intOf]; omega
        · have hne : decide (l = l') = false := decide_eq_false (fun e => he (by subst e; rfl))
          have HNE := Lib.hid hne
          clear hs hne
          generalize l[k] = x at hc he
          generalize l'[k] = y at hc' he
          have p0 : wr.cell? ⟨b, off + k * 2, none⟩ = some (.int .i64 x.1) := hc 0 (by omega)
          have q0 : wr.cell? ⟨b', off' + k * 2, none⟩ = some (.int .i64 y.1) := hc' 0 (by omega)
          have p1 : wr.cell? ⟨b, off + k * 2 + 1, none⟩ = some (.int .i64 x.2) := hc 1 (by omega)
          have q1 : wr.cell? ⟨b', off' + k * 2 + 1, none⟩ = some (.int .i64 y.2) := hc' 1 (by omega)
          clear hc hc'
          by_cases e0 : x.1 = y.1
          · rw [e0] at p0
            by_cases e1 : x.2 = y.2
            · exact absurd (Prod.ext e0 e1) he
            · clear he e0
              have hd : (x.2 == y.2) = false := by rw [beq_eq_false_iff_ne]; exact e1
              go_wp2
              go_quiet (fail)
              go_wp2
              go_ret
              exact ⟨by rw [HNE.out]; rfl, below_drewN hbw nq⟩
          · clear he 
            have hd : (x.1 == y.1) = false := by rw [beq_eq_false_iff_ne]; exact e0
            go_wp2
            go_quiet (fail)
            go_wp2
            go_ret
            exact ⟨by rw [HNE.out]; rfl, below_drewN hbw nq⟩
      · obtain rfl : k = l.length := by omega
        have hall : decide (l = l') = true := decide_eq_true (eq_of_get HLEN.out fun j h1 h2 => hs j h1 h2 h1)
        go_wp2
        go_ret
        exact ⟨by rw [hall]; rfl, hbw⟩
  · have hq : ((l.length : Int) != (l'.length : Int)) = true := by simp; omega
    have hne : decide (l = l') = false := decide_eq_false (fun e => hlen (by rw [e]))
    have HNE := Lib.hid hne
    clear hlen hne
    go_enter Try.func30, Try.ntmps30
    go_wp2
    go_ret
    exact ⟨by rw [HNE.out]; rfl, Below.refl _ _⟩

set_option maxRecDepth 100000 in
set_option maxHeartbeats 1000000 in
theorem sameElems_any (A B : Option Addr) (n m c d : Nat) (l l' : List Id3) (w : World) (ha : Rd w A (l.flatMap idC)) (hb : Rd w B (l'.flatMap idC)) (hn : l.length = n) (hm : l'.length = m) (hle : n ≤ 9223372036854775807) (hlm : m ≤ 9223372036854775807) :
    Calls Try.prog 31 #[.slice A n c, .slice B m d] w fun e w' => e = .returned (.bool (decide (l = l'))) ∧ Below w.heap.size w w' := by
  subst hn
  subst hm
  have HA := Lib.hid ha
  have HB := Lib.hid hb
  clear ha hb
  by_cases hlen : l.length = l'.length
  · have hq : ((l.length : Int) != (l'.length : Int)) = false := by simp [hlen]
    have HLEN := Lib.hid hlen
    have hl1 : l.length ≤ l'.length := by omega
    have hl2 : l'.length ≤ l.length := by omega
    clear hlen
    go_enter Try.func31, Try.ntmps31
    go_wp2
    clear hq
    go_loopw [5] (fun i wr => ∃ k : Nat, k ≤ l.length ∧ i = .int .i64 (k : Int) ∧ (∀ j (hj : j < l.length) (hj' : j < l'.length), j < k → l[j] = l'[j]) ∧ Below w.heap.size w wr) (fun i _ => l.length - (intOf i).toNat)
    case atStart => exact ⟨0, by omega, rfl, fun j _ _ hj => absurd hj (by omega), Below.refl _ _⟩
    case round =>
      obtain ⟨k, hk, rfl, hs, hbw⟩ := hrel
      by_cases hlt : k < l.length
      · have hlt' : k < l'.length := by omega
        have h1 := HA.out.keep hbw
        have h2 := HB.out.keep hbw
        obtain ⟨b, off, rfl, hbl, hc⟩ := rd_cells h1 (c := 3) (fun _ _ => rfl) (by omega) hlt
        obtain ⟨b', off', rfl, hbl', hc'⟩ := rd_cells h2 (c := 3) (fun _ _ => rfl) (by omega) hlt'
        clear h1 h2
        by_cases he : l[k] = l'[k]
        · have hs2 : ∀ j (hj : j < l.length) (hj' : j < l'.length), j < k + 1 → l[j] = l'[j] := fun j hj hj' h => by
            by_cases h2 : j < k
            · exact hs j hj hj' h2
            · obtain rfl : j = k := by omega
              exact he
          have HS2 := Lib.hid hs2
          rw [he] at hc
          clear hs hs2 he
          generalize l'[k] = x at hc hc'
          have p0 : wr.cell? ⟨b, off + k * 3, none⟩ = some (.int .i64 x.1) := hc 0 (by omega)
          have q0 : wr.cell? ⟨b', off' + k * 3, none⟩ = some (.int .i64 x.1) := hc' 0 (by omega)
          have p1 : wr.cell? ⟨b, off + k * 3 + 1, none⟩ = some (.int .i64 x.2.1) := hc 1 (by omega)
          have q1 : wr.cell? ⟨b', off' + k * 3 + 1, none⟩ = some (.int .i64 x.2.1) := hc' 1 (by omega)
          have p2 : wr.cell? ⟨b, off + k * 3 + 2, none⟩ = some (.int .i64 x.2.2) := hc 2 (by omega)
          have q2 : wr.cell? ⟨b', off' + k * 3 + 2, none⟩ = some (.int .i64 x.2.2) := hc' 2 (by omega)
          clear hc hc'
          go_wp2
          go_quiet (fail)
          go_wp2
          go_roundw
          case rel => exact ⟨k + 1, by omega, by go_num, HS2.out, below_drewN hbw nq⟩
          case measure => simp [intOf]; omega
        · have hne : decide (l = l') = false := decide_eq_false (fun e => he (by subst e; rfl))
          have HNE := Lib.hid hne
          clear hs hne
          generalize l[k] = x at hc he
          generalize l'[k] = y at hc' he
          have p0 : wr.cell? ⟨b, off + k * 3, none⟩ = some (.int .i64 x.1) := hc 0 (by omega)
          have q0 : wr.cell? ⟨b', off' + k * 3, none⟩ = some (.int .i64 y.1) := hc' 0 (by omega)
          have p1 : wr.cell? ⟨b, off + k * 3 + 1, none⟩ = some (.int .i64 x.2.1) := hc 1 (by omega)
          have q1 : wr.cell? ⟨b', off' + k * 3 + 1, none⟩ = some (.int .i64 y.2.1) := hc' 1 (by omega)
          have p2 : wr.cell? ⟨b, off + k * 3 + 2, none⟩ = some (.int .i64 x.2.2) := hc 2 (by omega)
          have q2 : wr.cell? ⟨b', off' + k * 3 + 2, none⟩ = some (.int .i64 y.2.2) := hc' 2 (by omega)
          clear hc hc'
          by_cases e0 : x.1 = y.1
          · rw [e0] at p0
            by_cases e1 : x.2.1 = y.2.1
            · rw [e1] at p1
              by_cases e2 : x.2.2 = y.2.2
              · exact absurd (Prod.ext e0 (Prod.ext e1 e2)) he
              · clear he e0 e1
                have hd : (x.2.2 == y.2.2) = false := by rw [beq_eq_false_iff_ne]; exact e2
                go_wp2
                go_quiet (fail)
                go_wp2
                go_ret
                exact ⟨by rw [HNE.out]; rfl, below_drewN hbw nq⟩
            · clear he e0
              have hd : (x.2.1 == y.2.1) = false := by rw [beq_eq_false_iff_ne]; exact e1
              go_wp2
              go_quiet (fail)
              go_wp2
              go_ret
              exact ⟨by rw [HNE.out]; rfl, below_drewN hbw nq⟩
          · clear he 
            have hd : (x.1 == y.1) = false := by rw [beq_eq_false_iff_ne]; exact e0
            go_wp2
            go_quiet (fail)
            go_wp2
            go_ret
            exact ⟨by rw [HNE.out]; rfl, below_drewN hbw nq⟩
      · obtain rfl : k = l.length := by omega
        have hall : decide (l = l') = true := decide_eq_true (eq_of_get HLEN.out fun j h1 h2 => hs j h1 h2 h1)
        go_wp2
        go_ret
        exact ⟨by rw [hall]; rfl, hbw⟩
  · have hq : ((l.length : Int) != (l'.length : Int)) = true := by simp; omega
    have hne : decide (l = l') = false := decide_eq_false (fun e => hlen (by rw [e]))
    have HNE := Lib.hid hne
    clear hlen hne
    go_enter Try.func31, Try.ntmps31
    go_wp2
    go_ret
    exact ⟨by rw [HNE.out]; rfl, Below.refl _ _⟩

set_option maxRecDepth 100000 in
set_option maxHeartbeats 1000000 in
theorem sameInts_any (A B : Option Addr) (n m c d : Nat) (l l' : List Int) (w : World) (ha : Rd w A (l.flatMap intC)) (hb : Rd w B (l'.flatMap intC)) (hn : l.length = n) (hm : l'.length = m) (hle : n ≤ 9223372036854775807) (hlm : m ≤ 9223372036854775807) :
    Calls Try.prog 16 #[.slice A n c, .slice B m d] w fun e w' => e = .returned (.bool (decide (l = l'))) ∧ Below w.heap.size w w' := by
  subst hn
  subst hm
  have HA := Lib.hid ha
  have HB := Lib.hid hb
  clear ha hb
  by_cases hlen : l.length = l'.length
  · have hq : ((l.length : Int) != (l'.length : Int)) = false := by simp [hlen]
    have HLEN := Lib.hid hlen
    have hl1 : l.length ≤ l'.length := by omega
    have hl2 : l'.length ≤ l.length := by omega
    clear hlen
    go_enter Try.func16, Try.ntmps16
    go_wp2
    clear hq
    go_loopw [5] (fun i wr => ∃ k : Nat, k ≤ l.length ∧ i = .int .i64 (k : Int) ∧ (∀ j (hj : j < l.length) (hj' : j < l'.length), j < k → l[j] = l'[j]) ∧ Below w.heap.size w wr) (fun i _ => l.length - (intOf i).toNat)
    case atStart => exact ⟨0, by omega, rfl, fun j _ _ hj => absurd hj (by omega), Below.refl _ _⟩
    case round =>
      obtain ⟨k, hk, rfl, hs, hbw⟩ := hrel
      by_cases hlt : k < l.length
      · have hlt' : k < l'.length := by omega
        have h1 := HA.out.keep hbw
        have h2 := HB.out.keep hbw
        obtain ⟨b, off, rfl, hbl, hc⟩ := rd_cells h1 (c := 1) (fun _ _ => rfl) (by omega) hlt
        obtain ⟨b', off', rfl, hbl', hc'⟩ := rd_cells h2 (c := 1) (fun _ _ => rfl) (by omega) hlt'
        clear h1 h2
        by_cases he : l[k] = l'[k]
        · have hs2 : ∀ j (hj : j < l.length) (hj' : j < l'.length), j < k + 1 → l[j] = l'[j] := fun j hj hj' h => by
            by_cases h2 : j < k
            · exact hs j hj hj' h2
            · obtain rfl : j = k := by omega
              exact he
          have HS2 := Lib.hid hs2
          rw [he] at hc
          clear hs hs2 he
          generalize l'[k] = x at hc hc'
          have p0 : wr.cell? ⟨b, off + k, none⟩ = some (.int .i64 x) := by have := hc 0 (by omega); rw [Nat.mul_one] at this; exact this
          have q0 : wr.cell? ⟨b', off' + k, none⟩ = some (.int .i64 x) := by have := hc' 0 (by omega); rw [Nat.mul_one] at this; exact this
          clear hc hc'
          go_wp2
          go_quiet (fail)
          go_wp2
          go_roundw
          case rel => exact ⟨k + 1, by omega, by go_num, HS2.out, below_drewN hbw nq⟩
          case measure => simp [intOf]; omega
        · have hne : decide (l = l') = false := decide_eq_false (fun e => he (by subst e; rfl))
          have HNE := Lib.hid hne
          clear hs hne
          generalize l[k] = x at hc he
          generalize l'[k] = y at hc' he
          have p0 : wr.cell? ⟨b, off + k, none⟩ = some (.int .i64 x) := by have := hc 0 (by omega); rw [Nat.mul_one] at this; exact this
          have q0 : wr.cell? ⟨b', off' + k, none⟩ = some (.int .i64 y) := by have := hc' 0 (by omega); rw [Nat.mul_one] at this; exact this
          clear hc hc'
          by_cases e0 : x = y
          · exact absurd (e0) he
          · clear he 
            have hd : (x == y) = false := by rw [beq_eq_false_iff_ne]; exact e0
            go_wp2
            go_quiet (fail)
            go_wp2
            go_ret
            exact ⟨by rw [HNE.out]; rfl, below_drewN hbw nq⟩
      · obtain rfl : k = l.length := by omega
        have hall : decide (l = l') = true := decide_eq_true (eq_of_get HLEN.out fun j h1 h2 => hs j h1 h2 h1)
        go_wp2
        go_ret
        exact ⟨by rw [hall]; rfl, hbw⟩
  · have hq : ((l.length : Int) != (l'.length : Int)) = true := by simp; omega
    have hne : decide (l = l') = false := decide_eq_false (fun e => hlen (by rw [e]))
    have HNE := Lib.hid hne
    clear hlen hne
    go_enter Try.func16, Try.ntmps16
    go_wp2
    go_ret
    exact ⟨by rw [HNE.out]; rfl, Below.refl _ _⟩

end Go.Proofs.Ytphnimmhjnhajaa.W8

