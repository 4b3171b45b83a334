/-
  Layer 5, walks: numerals, and the texts of ids.
-/
import Derived.Test.YthecofkkacieaaaDoorS5j
import Derived.Test.YthecofkkacieaaaDoorLay5
namespace Go.Proofs.YthecofkkacieaaaDoor.S5
open Go.RowKit Go.PlainAid Go.Shelf M5
set_option linter.unusedVariables false

/-- What the package-level variables hold that are read: the powers of ten, and two errors that are not nil. -/
def Env (w : World) : Prop := Lib.TabIs Tryd.prog w "internal/strconv.uint64pow10" .u64 Lib.pow10Tab ∧
  (∃ te pe, w.cell? ⟨1, 0, none⟩ = some (.iface te pe)) ∧ (∃ te pe, w.cell? ⟨2, 0, none⟩ = some (.iface te pe)) ∧ 5 < w.heap.size
theorem gPow : Tryd.prog.globalNamed "internal/strconv.uint64pow10" = some 5 := by kernel_rfl
theorem Env.below {w w' : World} {B : Nat} (h : Env w) (hb : Below B w w') (hB : w.heap.size ≤ B) : Env w' := by
  obtain ⟨h1, ⟨a, b, h2⟩, ⟨c, d, h3⟩, h4⟩ := h
  refine ⟨?_, ⟨a, b, ?_⟩, ⟨c, d, ?_⟩, ?_⟩
  · unfold Lib.TabIs World.var? at h1 ⊢
    rw [gPow] at h1 ⊢
    simp only [Option.bind_some] at h1 ⊢
    rw [hb.block _ (by omega)]
    exact h1
  · exact (hb.cell (p := ⟨1, 0, none⟩) (show 1 < B by have := h4; omega)).trans h2
  · exact (hb.cell (p := ⟨2, 0, none⟩) (show 2 < B by have := h4; omega)).trans h3
  · have := hb.size; omega
theorem Env.keep {w w' : World} (h : Env w) (hb : Below w.heap.size w w') : Env w' := h.below hb (Nat.le_refl _)

theorem below_grow {w : World} (k : Nat) (os : Array Obj) : Below w.heap.size w (Sort.grow (w.drewN k) os) := by
  refine ⟨rfl, rfl, rfl, ?_, fun i hi => ?_⟩
  · simp [Sort.grow]
  · show (w.heap ++ os)[i]? = w.heap[i]?
    rw [Array.getElem?_append_left hi]

theorem itoa_any (n : Int) (h0 : 0 ≤ n) (h1 : n ≤ 9223372036854775807) (w : World) (he : Env w) :
    Calls Tryd.prog 32 #[.int .i64 n] w fun e w' => e = .returned (.string (bs (Lib.decDigits n.toNat))) ∧ Below w.heap.size w w' := by
  refine (Any.strconv_Itoa Tryd.laysM171 n (by omega) h1 w he.1).mono ?_
  rintro e w' ⟨rfl, k, os, rfl⟩
  refine ⟨?_, below_grow k os⟩
  unfold Lib.itoa
  rw [if_neg (by omega)]; rfl

theorem dec_step {m : Nat} (h : 9 < m) : Lib.decDigits m = Lib.decDigits (m / 10) ++ [UInt8.ofNat (48 + m % 10)] := decDigits_big (by omega)
theorem byte_dig (m : Nat) : Value.int .u8 (48 + (m : Int) % 10) = Value.int .u8 (UInt8.ofNat (48 + m % 10)).toNat := by
  rw [byte48 (Nat.mod_lt _ (by omega))]; congr 1
theorem byte_one {m : Nat} (h : m ≤ 9) : Value.int .u8 (48 + (m : Int)) = Value.int .u8 (UInt8.ofNat (48 + m)).toNat := by
  rw [byte48 (by omega)]; congr 1

/-- WHAT THE LOOP OF digits KEEPS. -/
def DigRel (n : Nat) (w : World) (i s : Value) (wr : World) : Prop :=
  ∃ (m : Nat) (t : List UInt8), i = .int .i64 (m : Int) ∧ m ≤ n ∧ s = .string (bs t) ∧ t.length ≤ 20 ∧ Hid (Lib.decDigits n = Lib.decDigits m ++ t) ∧ Below w.heap.size w wr

set_option maxRecDepth 100000 in
set_option maxHeartbeats 400000 in
theorem digits_any (n : Nat) (h1 : n ≤ 9223372036854775807) (w : World) :
    Calls Tryd.prog 33 #[.int .i64 (n : Int)] w fun e w' => e = .returned (.string (bs (Lib.decDigits n))) ∧ Below w.heap.size w w' := by
  obtain ⟨i0, hi0, hz0, hz1, hz2⟩ := info_parts info_u8
  have hlen := dec_len (u := n) (k := 19) (by omega) (by omega)
  have h0 : DigRel n w (.int .i64 (n : Int)) (.string (bs [])) w := ⟨n, [], rfl, Nat.le_refl _, rfl, by simp, (List.append_nil _).symm, Below.refl _ _⟩
  have H0 := Lib.hid h0
  clear h0
  go_enter Tryd.func33, Tryd.ntmps33
  go_wp2
  go_loopw [0, 3, 4] (fun i s _ wr => DigRel n w i s wr) (fun i _ _ _ => (intOf i).toNat)
  case atStart => exact H0.out
  case round =>
    clear H0
    obtain ⟨m, t, rfl, hmn, rfl, htl, HK, hb⟩ := hrel
    have hB := hb.size
    by_cases h9 : 9 < m
    · obtain ⟨x, hx⟩ : ∃ x, x = UInt8.ofNat (48 + m % 10) := ⟨_, rfl⟩
      have HS : Hid (Lib.decDigits n = Lib.decDigits (m / 10) ++ (x :: t)) := by show _ = _; rw [HK.out, dec_step h9, hx, List.append_assoc]; rfl
      have hl2 : (x :: t).length ≤ 20 := by
        have := congrArg List.length HS.out
        rw [List.length_append] at this
        omega
      have HBD := Lib.hid (byte_dig m)
      rw [← hx] at HBD
      have hs1 : (bs [x]).size + (bs t).size ≤ 9223372036854775807 := by rw [bs_size, bs_size]; simp; omega
      clear hx
      go_wp2_with (at_builtin; refine wpList_append_own _ rfl (.tmp 14) (.tmp 19) 64 rfl wr.heap.size 5 i0 (.int .u8 0) 1 1 Tryd.underlying64 hi0 hz0 hz1 hz2 rfl (by decide) _ _ _ rfl ((World.ownsRow_nil _ _ _ _).alloc _) ⟨wr.heap.size, 0, none⟩ 1 1 _ rfl rfl (cell_one_new _ _ _) (by simp [Value.oneCell']) (by unfold maxLen; omega) (by omega) (by simp) ?_)
      intro v1 w1 hown1 hg1 _
      rw [HBD.out] at hown1
      have hcv := own_string (l := [x]) hown1
      have hbj := Lib.hid (bs_join [x] t)
      have hb1 : Below w.heap.size w w1 := (hb.alloc hB _).grown hg1 (by simp; omega) (fun q hq => by simp [Value.ownBlock] at hq)
      clear hown1 hg1
      go_wp2
      go_roundw
      case rel => exact ⟨m / 10, _, by go_num, by omega, by rw [hbj.out]; rfl, hl2, HS, hb1⟩
      case measure => simp [intOf]; omega
    · obtain ⟨x, hx⟩ : ∃ x, x = UInt8.ofNat (48 + m) := ⟨_, rfl⟩
      have HS : Hid (Lib.decDigits n = x :: t) := by show _ = _; rw [HK.out, hx, Lib.decDigits_one (by omega)]; rfl
      have HBD := Lib.hid (byte_one (m := m) (by omega))
      rw [← hx] at HBD
      have hs1 : (bs [x]).size + (bs t).size ≤ 9223372036854775807 := by rw [bs_size, bs_size]; simp; omega
      clear hx
      go_wp2_with (at_builtin; refine wpList_append_own _ rfl (.tmp 27) (.tmp 31) 64 rfl wr.heap.size 5 i0 (.int .u8 0) 1 1 Tryd.underlying64 hi0 hz0 hz1 hz2 rfl (by decide) _ _ _ rfl ((World.ownsRow_nil _ _ _ _).alloc _) ⟨wr.heap.size, 0, none⟩ 1 1 _ rfl rfl (cell_one_new _ _ _) (by simp [Value.oneCell']) (by unfold maxLen; omega) (by omega) (by simp) ?_)
      intro v1 w1 hown1 hg1 _
      rw [HBD.out] at hown1
      have hcv := own_string (l := [x]) hown1
      have hbj := Lib.hid (bs_join [x] t)
      have hb1 : Below w.heap.size w w1 := (hb.alloc hB _).grown hg1 (by simp; omega) (fun q hq => by simp [Value.ownBlock] at hq)
      clear hown1 hg1
      go_wp2
      go_ret
      exact ⟨by rw [HS.out]; exact congrArg (fun z => Ending.returned (.string z)) hbj.out, hb1⟩

end Go.Proofs.YthecofkkacieaaaDoor.S5
