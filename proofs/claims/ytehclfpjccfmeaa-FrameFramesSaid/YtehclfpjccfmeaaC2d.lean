/-
  Layer 2, walks: a sum's bytes; texts turned by one another.
-/
import Derived.Test.YtehclfpjccfmeaaC2c
import Derived.Test.YtehclfpjccfmeaaSt
import Derived.Outline
namespace Go.Proofs.Ytehclfpjccfmeaa.C2
open Go.RowKit Go.PlainAid M2
set_option linter.unusedVariables false

theorem byte_eq {x : Int} {n : Nat} (h : x = ((n % 256 : Nat) : Int)) : Value.int .u8 x = .int .u8 ((UInt8.ofNat n).toNat : Int) := by
  rw [h, UInt8.toNat_ofNat']
/-- Four bytes, as they are laid. -/
def cells4 (c : Nat) : Array Value := #[.int .u8 ((c : Int) / 16777216), .int .u8 ((c : Int) / 65536 % 256), .int .u8 ((c : Int) / 256 % 256), .int .u8 ((c : Int) % 256)]
theorem cells4_eq {c : Nat} (hc : c < 4294967296) : (cells4 c).toList = u8s (sumB c) := by
  unfold cells4 sumB
  show [_, _, _, _] = [_, _, _, _]
  rw [byte_eq (x := (c : Int) / 16777216) (n := c / 16777216) (by omega), byte_eq (x := (c : Int) / 65536 % 256) (n := c / 65536) (by omega),
    byte_eq (x := (c : Int) / 256 % 256) (n := c / 256) (by omega), byte_eq (x := (c : Int) % 256) (n := c) (by omega)]

set_option maxRecDepth 100000 in
set_option maxHeartbeats 400000 in
theorem bytes_any (c : Nat) (hc : c < 4294967296) (w : World) :
    Calls Try.prog 22 #[.int .u32 (c : Int)] w fun e w' => e = .returned (.string (bs (sumB c))) ∧ Below w.heap.size w w' := by
  have ho := World.ownsRow_lit (base := w.heap.size) (size := 1) (e := 5) w (cells4 c) 4 (Nat.le_refl _) (by unfold maxLen; omega) rfl
  rw [cells4_eq hc] at ho
  have hcv := own_string ho
  unfold cells4 at hcv
  clear ho
  go_enter Try.func22, Try.ntmps22
  go_wp2
  go_ret
  exact ⟨rfl, (Below.refl _ _).alloc (Nat.le_refl _) _⟩

set_option maxRecDepth 100000 in
set_option maxHeartbeats 400000 in
theorem refBytes_any (c : Nat) (hc : c < 4294967296) (w : World) :
    Calls Try.prog 25 #[.int .u32 (c : Int)] w fun e w' => e = .returned (.string (bs (sumB c))) ∧ Below w.heap.size w w' := by
  obtain ⟨i0, hi0, hz0, hz1, hz2⟩ := info_parts info_u8
  have HC := Lib.hid (cells4_eq hc)
  go_enter Try.func25, Try.ntmps25
  go_wp2_with (at_builtin; refine wpList_append_own _ rfl (.tmp 4) (.tmp 16) 57 rfl w.heap.size 5 i0 (.int .u8 0) 1 1 Try.underlying57 hi0 hz0 hz1 hz2 rfl (by decide) _ _ _ rfl (World.ownsRow_nil _ _ _ _) ⟨w.heap.size, 0, none⟩ 4 4 (cells4 c).toList rfl rfl ?c1 ?c2 ?c3 ?c4 ?c5 ?_)
  case c1 =>
    have ho := World.ownsRow_lit (base := w.heap.size) (size := 1) (e := 5) w (cells4 c) 4 (Nat.le_refl _) (by unfold maxLen; omega) rfl
    exact fun j u h => ho.cells (g := w.heap.size) rfl j u h
  case c2 => simp [cells4, Value.oneCell']
  case c3 => unfold maxLen; omega
  case c4 => omega
  case c5 => first | omega | (simp; done) | (simp; omega)
  intro v1 w1 hown1 hg1 _
  rw [HC.out] at hown1
  have hcv := own_string hown1
  go_wp2
  go_ret
  exact ⟨rfl, ((Below.refl _ _).alloc (Nat.le_refl _) _).grown hg1 (by simp) (fun q hq => by simp [Value.ownBlock] at hq)⟩

/-- WHAT THE LOOP OF turned KEEPS. -/
def TurnRel (a b : ByteArray) (w : World) (v i : Value) (wr : World) : Prop :=
  ∃ k : Nat, k ≤ a.size ∧ k ≤ b.size ∧ i = .int .i64 (k : Int) ∧ wr.ownsRow w.heap.size 5 1 v k (u8s (tz (a.data.toList.take k) (b.data.toList.take k))) ∧ Below w.heap.size w wr

theorem tz_snoc {a b : List UInt8} (h : a.length = b.length) (x y : UInt8) : tz (a ++ [x]) (b ++ [y]) = tz a b ++ [x ^^^ y] := by
  unfold tz; rw [List.zipWith_append h]; rfl
theorem tz_take (a b : ByteArray) (k : Nat) (_h1 : k < a.size) (_h2 : k < b.size) :
    tz (a.data.toList.take (k + 1)) (b.data.toList.take (k + 1)) = tz (a.data.toList.take k) (b.data.toList.take k) ++ [a[k] ^^^ b[k]] := by
  rw [take_snoc a k _h1, take_snoc b k _h2]
  refine tz_snoc ?_ _ _
  have e1 : a.data.toList.length = a.size := rfl
  have e2 : b.data.toList.length = b.size := rfl
  rw [List.length_take, List.length_take]; omega
theorem tz_end (a b : List UInt8) (k : Nat) (_h1 : k ≤ a.length) (_h2 : k ≤ b.length) (h3 : k = a.length ∨ k = b.length) : tz (a.take k) (b.take k) = tz a b := by
  unfold tz; rw [← List.take_zipWith]
  apply List.take_of_length_le
  rw [List.length_zipWith]; omega
theorem u8xx (a b : UInt8) : bits .xor .u8 (a.toNat : Int) (b.toNat : Int) = ((a ^^^ b).toNat : Int) := by
  rw [u8_xor_nat _ _ (UInt8.toNat_lt a) (UInt8.toNat_lt b), UInt8.toNat_xor]

end Go.Proofs.Ytehclfpjccfmeaa.C2
