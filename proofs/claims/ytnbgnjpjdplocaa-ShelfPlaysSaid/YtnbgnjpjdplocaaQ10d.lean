/-
  Layer 10, walks: the library's IndexFunc; an id's place in a block, and the kth seen one.
-/
import Derived.Test.YtnbgnjpjdplocaaQ10c
namespace Go.Proofs.Ytnbgnjpjdplocaa.Q10
open Go.RowKit Go.PlainAid
set_option linter.unusedVariables false
set_option linter.unusedSimpArgs false

def enV (e : En) : Value := .agg #[.int .i64 e.1.1, .int .i64 e.1.2.1, .int .i64 e.1.2.2, .bool e.2]

set_option maxRecDepth 100000 in
set_option maxHeartbeats 1000000 in
theorem indexFunc_any (g : Nat) (lb : Array Value) (eg : ∀ args w, (callFunc g args).run Try.prog w = .ok (.enter g args) w) (A : Option Addr) (n c : Nat) (l : List En) (w : World) (hl : l.length = n) (hn : n ≤ 1000000)
    (St : Nat → World → Prop) (p : Nat → Bool) (h0 : St 0 w) (hrd : ∀ k W, St k W → Rd W A (ens l))
    (hcall : ∀ k (hk : k < l.length) W, St k W → Calls Try.prog g (#[enV l[k]] ++ lb) W fun e w' => e = .returned (.bool (p k)) ∧ St (k + 1) w')
    (k0 : Nat) (hk0 : k0 < n) (hp : p k0 = true) (hlt : ∀ j, j < k0 → p j = false) :
    Calls Try.prog 37 #[.slice A n c, .func (.func g) #[] lb] w fun e w' => e = .returned (.int .i64 (k0 : Int)) ∧ St (k0 + 1) w' := by
  subst hl
  have HR := Lib.hid hrd
  have HC := Lib.hid hcall
  have HL := Lib.hid hlt
  have HP := Lib.hid hp
  have S0 := Lib.hid h0
  clear hrd hcall hlt h0 hp
  go_enter Try.func37, Try.ntmps37
  go_wp2
  go_loopw [5, 8] (fun _ i wr => ∃ k : Nat, k ≤ k0 ∧ i = .int .i64 (k : Int) ∧ Hid (St k wr)) (fun _ i _ => l.length - (intOf i).toNat)
  case atStart => exact ⟨0, by omega, rfl, S0⟩
  case round =>
    obtain ⟨k, hk, rfl, S1⟩ := hrel
    have hlt : k < l.length := by omega
    obtain ⟨b, off, rfl, hbl, c0, c1, c2, c3⟩ := en_cells (HR.out k wr S1.out) hlt
    have hcall := HC.out k hlt wr S1.out
    rw [show enV l[k] = .agg #[.int .i64 l[k].1.1, .int .i64 l[k].1.2.1, .int .i64 l[k].1.2.2, .bool l[k].2] from rfl] at hcall
    by_cases he : k = k0
    · subst he
      rw [HP.out] at hcall
      have H2 := Lib.hid hcall
      clear hcall
      generalize l[k].1.1 = x1 at *
      generalize l[k].1.2.1 = x2 at *
      generalize l[k].1.2.2 = x3 at *
      generalize l[k].2 = x4 at *
      go_wp2_with (go_at_fn g; refine (H2.out).mono ?_; rintro e w' ⟨rfl, hb'⟩; have S2 := Lib.hid hb'; clear hb')
      go_ret
      exact ⟨rfl, S2.out⟩
    · have hpk := HL.out k (by omega)
      rw [hpk] at hcall
      have H2 := Lib.hid hcall
      clear hcall hpk
      generalize l[k].1.1 = x1 at *
      generalize l[k].1.2.1 = x2 at *
      generalize l[k].1.2.2 = x3 at *
      generalize l[k].2 = x4 at *
      go_wp2_with (go_at_fn g; refine (H2.out).mono ?_; rintro e w' ⟨rfl, hb'⟩; have S2 := Lib.hid hb'; clear hb')
      go_roundw
      case rel => exact ⟨k + 1, by omega, by go_num, S2⟩
      case measure => simp [intOf]; omega

set_option maxRecDepth 100000 in
set_option maxHeartbeats 1000000 in
theorem isPlace_any (e0 : En) (x : Nm) (B : Nat) (W : World) (h0 : W.cell? ⟨B, 0, none⟩ = some (.int .i64 x.1)) (h1 : W.cell? ⟨B, 1, none⟩ = some (.int .i64 x.2.1)) (h2 : W.cell? ⟨B, 2, none⟩ = some (.int .i64 x.2.2)) (hB : B < W.heap.size) :
    Calls Try.prog 38 (#[enV e0] ++ #[.pointer (some ⟨B, 0, none⟩)]) W fun e w' => e = .returned (.bool (decide (e0.1 = x))) ∧ Below W.heap.size W w' := by
  obtain ⟨⟨a, b, c⟩, s⟩ := e0
  obtain ⟨t, r, i⟩ := x
  simp only at h0 h1 h2
  have hne : B ≠ W.heap.size := by omega
  show Calls Try.prog 38 #[.agg #[.int .i64 a, .int .i64 b, .int .i64 c, .bool s], .pointer (some ⟨B, 0, none⟩)] W fun e w' => e = .returned (.bool (decide ((a, b, c) = (t, r, i)))) ∧ Below W.heap.size W w'
  go_enter Try.func38, Try.ntmps38
  go_wp2
  all_goals (go_ret; exact ⟨by simp_all, (Below.refl _ _).alloc (Nat.le_refl _) _⟩)

theorem enters_place : ∀ args w, (callFunc 38 args).run Try.prog w = .ok (.enter 38 args) w := enters_of Try.func38 (by kernel_rfl) rfl
theorem enters_find : ∀ args w, (callFunc 39 args).run Try.prog w = .ok (.enter 39 args) w := enters_of Try.func39 (by kernel_rfl) rfl

end Go.Proofs.Ytnbgnjpjdplocaa.Q10
