/-
  Layer 2, walks: a sum's bytes; texts turned by one another.
-/
import Derived.Test.YtohpngnlfegkhaaC2c
import Derived.Test.YtohpngnlfegkhaaSt
import Derived.Outline
namespace Go.Proofs.Ytohpngnlfegkhaa.C2
open Go.RowKit Go.PlainAid M2

theorem byte_eq {x : Int} {n : Nat} (h : x = ((n % 256 : Nat) : Int)) : Value.int .u8 x = .int .u8 ((UInt8.ofNat n).toNat : Int) := by
  rw [h, UInt8.toNat_ofNat']
/-- Four bytes, as they are laid. -/
def cells4 (c : Nat) : Array Value := #[.int .u8 ((c : Int) / 16777216), .int .u8 ((c : Int) / 65536 % 256), .int .u8 ((c : Int) / 256 % 256), .int .u8 ((c : Int) % 256)]
theorem cells4_eq {c : Nat} (hc : c < 4294967296) : (cells4 c).toList = u8s (sumB c) := by
  unfold cells4 sumB
  show [_, _, _, _] = [_, _, _, _]
  rw [byte_eq (x := (c : Int) / 16777216) (n := c / 16777216) (by omega), byte_eq (x := (c : Int) / 65536 % 256) (n := c / 65536) (by omega),
    byte_eq (x := (c : Int) / 256 % 256) (n := c / 256) (by omega), byte_eq (x := (c : Int) % 256) (n := c) (by omega)]

set_option maxRecDepth 100000 in
set_option maxHeartbeats 400000 in
theorem bytes_any (c : Nat) (hc : c < 4294967296) (w : World) :
    Calls Try.prog 15 #[.int .u32 (c : Int)] w fun e w' => e = .returned (.string (bs (sumB c))) ∧ Below w.heap.size w w' := by
  have ho := World.ownsRow_lit (base := w.heap.size) (size := 1) (e := 5) w (cells4 c) 4 (Nat.le_refl _) (by unfold maxLen; omega) rfl
  rw [cells4_eq hc] at ho
  have hcv := own_string ho
  unfold cells4 at hcv
  clear ho
  go_enter Try.func15, Try.ntmps15
  go_wp2
  go_ret
  exact ⟨rfl, (Below.refl _ _).alloc (Nat.le_refl _) _⟩

set_option maxRecDepth 100000 in
set_option maxHeartbeats 400000 in
theorem refBytes_any (c : Nat) (hc : c < 4294967296) (w : World) :
    Calls Try.prog 16 #[.int .u32 (c : Int)] w fun e w' => e = .returned (.string (bs (sumB c))) ∧ Below w.heap.size w w' := by
  obtain ⟨i0, hi0, hz0, hz1, hz2⟩ := info_parts info_u8
  have HC := Lib.hid (cells4_eq hc)
  go_enter Try.func16, Try.ntmps16
  go_wp2_with (at_builtin; refine wpList_append_own _ rfl (.tmp 4) (.tmp 16) 33 rfl w.heap.size 5 i0 (.int .u8 0) 1 1 Try.underlying33 hi0 hz0 hz1 hz2 rfl (by decide) _ _ _ rfl (World.ownsRow_nil _ _ _ _) ⟨w.heap.size, 0, none⟩ 4 4 (cells4 c).toList rfl rfl ?c1 ?c2 ?c3 ?c4 ?c5 ?_)
  case c1 =>
    have ho := World.ownsRow_lit (base := w.heap.size) (size := 1) (e := 5) w (cells4 c) 4 (Nat.le_refl _) (by unfold maxLen; omega) rfl
    exact fun j u h => ho.cells (g := w.heap.size) rfl j u h
  case c2 => simp [cells4, Value.oneCell']
  case c3 => unfold maxLen; omega
  case c4 => omega
  case c5 => first | omega | (simp; done) | (simp; omega)
  intro v1 w1 hown1 hg1 _
  rw [HC.out] at hown1
  have hcv := own_string hown1
  go_wp2
  go_ret
  exact ⟨rfl, ((Below.refl _ _).alloc (Nat.le_refl _) _).grown hg1 (by simp) (fun q hq => by simp [Value.ownBlock] at hq)⟩

/-- WHAT THE LOOP OF turned KEEPS. -/
def TurnRel (a b : ByteArray) (w : World) (v i : Value) (wr : World) : Prop :=
  ∃ k : Nat, k ≤ a.size ∧ k ≤ b.size ∧ i = .int .i64 (k : Int) ∧ wr.ownsRow w.heap.size 5 1 v k (u8s (tz (a.data.toList.take k) (b.data.toList.take k))) ∧ Below w.heap.size w wr

theorem tz_snoc {a b : List UInt8} (h : a.length = b.length) (x y : UInt8) : tz (a ++ [x]) (b ++ [y]) = tz a b ++ [x ^^^ y] := by
  unfold tz; rw [List.zipWith_append h]; rfl
theorem tz_take (a b : ByteArray) (k : Nat) (_h1 : k < a.size) (_h2 : k < b.size) :
    tz (a.data.toList.take (k + 1)) (b.data.toList.take (k + 1)) = tz (a.data.toList.take k) (b.data.toList.take k) ++ [a[k] ^^^ b[k]] := by
  rw [take_snoc a k _h1, take_snoc b k _h2]
  refine tz_snoc ?_ _ _
  have e1 : a.data.toList.length = a.size := rfl
  have e2 : b.data.toList.length = b.size := rfl
  rw [List.length_take, List.length_take]; omega
theorem tz_end (a b : List UInt8) (k : Nat) (_h1 : k ≤ a.length) (_h2 : k ≤ b.length) (h3 : k = a.length ∨ k = b.length) : tz (a.take k) (b.take k) = tz a b := by
  unfold tz; rw [← List.take_zipWith]
  apply List.take_of_length_le
  rw [List.length_zipWith]; omega
theorem u8xx (a b : UInt8) : bits .xor .u8 (a.toNat : Int) (b.toNat : Int) = ((a ^^^ b).toNat : Int) := by
  rw [u8_xor_nat _ _ (UInt8.toNat_lt a) (UInt8.toNat_lt b), UInt8.toNat_xor]

set_option maxRecDepth 100000 in
set_option maxHeartbeats 400000 in
theorem turned_any (a b : ByteArray) (w : World) (ha : a.size ≤ 140737488351232) (hb : b.size ≤ 140737488351232) :
    Calls Try.prog 17 #[.string a, .string b] w fun e w' => e = .returned (.string (bs (tz a.data.toList b.data.toList))) ∧ Below w.heap.size w w' := by
  obtain ⟨i0, hi0, hz0, hz1, hz2⟩ := info_parts info_u8
  have h0 : TurnRel a b w (.slice none 0 0) (.int .i64 0) w := ⟨0, by omega, by omega, rfl, World.ownsRow_nil _ _ _ _, Below.refl _ _⟩
  have H0 := Lib.hid h0
  clear h0
  go_enter Try.func17, Try.ntmps17
  go_wp2
  go_loopw [5, 6] (fun v i wr => TurnRel a b w v i wr) (fun _ i _ => a.size - (intOf i).toNat)
  case atStart => exact H0.out
  case round =>
    obtain ⟨k, hka, hkb, rfl, ho, hbw⟩ := hrel
    clear H0
    by_cases h1 : k < a.size
    · by_cases h2 : k < b.size
      · have HT := Lib.hid (tz_take a b k h1 h2)
        have hx := u8xx a[k] b[k]
        have hB : w.heap.size ≤ wr.heap.size := hbw.size
        go_wp2
        go_region_law (refine step_append_own rfl (.tmp 19) (.tmp 27) 33 rfl w.heap.size 5 i0 (.int .u8 0) 1 1 Try.underlying33 hi0 hz0 hz1 hz2 rfl (by decide) _ k _ rfl (ho.alloc _) ⟨wr.heap.size, 0, none⟩ 1 1 [.int .u8 ((a[k] ^^^ b[k]).toNat : Int)] rfl rfl (cell_one_new _ _ _) (by simp [Value.oneCell']) (by unfold maxLen; omega) (by omega) (by simp; omega) ?_; intro v1 w1 hown1 hg1)
        all_goals
          have hrel : TurnRel a b w v1 (.int .i64 ((k : Int) + 1)) w1 := by
            refine ⟨k + 1, by omega, by omega, by go_num, ?_, ((hbw.alloc hB _).drew).grown hg1 (by simp; omega) (fun q hq => (ho.lt q hq).1)⟩
            rw [HT.out, u8s_append]
            exact hown1
          have HR := Lib.hid hrel
          clear hrel hown1 hg1
          go_wp2
          go_roundw
          case rel => exact HR.out
          case measure => simp [intOf]; omega
      · obtain rfl : k = b.size := by omega
        have HE := Lib.hid (tz_end a.data.toList b.data.toList b.size hka hkb (.inr rfl))
        rw [HE.out] at ho
        have hcv := own_string ho
        go_wp2
        go_ret
        exact ⟨rfl, hbw⟩
    · obtain rfl : k = a.size := by omega
      have HE := Lib.hid (tz_end a.data.toList b.data.toList a.size hka hkb (.inl rfl))
      rw [HE.out] at ho
      have hcv := own_string ho
      go_wp2
      go_ret
      exact ⟨rfl, hbw⟩

end Go.Proofs.Ytohpngnlfegkhaa.C2
