/-
  Layer 1, walks: numbers with signs, texts with their length ahead.
-/
import Derived.Test.YtehclfpjccfmeaaV1c
import Derived.Lib.AppendStr
namespace Go.Proofs.Ytehclfpjccfmeaa.V1
open Go.RowKit Go.PlainAid

theorem take_shape (l : List UInt8) : (∃ n r, take l = (n, r, 0) ∧ n ≤ 9223372036854775807 ∧ r.length ≤ l.length) ∨ (∃ e : Int, take l = (0, [], e) ∧ (e = 10 ∨ e = 11)) := by
  have hr := tk_rest l 0 0
  rcases tk_cases l 0 0 with h | ⟨h1, h2, h3⟩
  · exact .inl ⟨(take l).1, (take l).2.1, by rw [← h]; rfl, take_lt l, hr⟩
  · refine .inr ⟨(take l).2.2, ?_, h3⟩
    have e1 : (take l).1 = 0 := h1
    have e2 : (take l).2.1 = [] := h2
    rw [show take l = ((take l).1, (take l).2.1, (take l).2.2) by rfl, e1, e2]

theorem take_as {s : ByteArray} {n : Nat} {r : List UInt8} {e : Int} (h : take s.data.toList = (n, r, e)) (hs : s.size ≤ 9223372036854775807) (w : World) :
    Calls Try.prog 27 #[.string s] w fun x w' => x = .returned (.tuple #[.int .i64 (n : Int), .string (bs r), .int .i64 e]) ∧ Below w.heap.size w w' := by
  have := take_any s hs w
  rw [h] at this
  exact this
theorem refTake_as {s : ByteArray} {n : Nat} {r : List UInt8} {e : Int} (h : take s.data.toList = (n, r, e)) (hs : s.size ≤ 9223372036854775807) (w : World) :
    Calls Try.prog 28 #[.string s] w fun x w' => x = .returned (.tuple #[.int .i64 (n : Int), .string (bs r), .int .i64 e]) ∧ Below w.heap.size w w' := by
  have := refTake_any s hs w
  rw [h] at this
  exact this

/-- A3's answers. -/
def intR (n : Int) : List UInt8 × Int := if n < -4611686018427387904 ∨ 4611686018427387903 < n then ([], 1) else (natB (zig n), 0)
def takeInt (s : List UInt8) : Int × List UInt8 × Int := (zag (take s).1, (take s).2.1, (take s).2.2)

theorem natR_len (s : ByteArray) : natR (s.size : Int) = (natB s.size, 0) := by
  unfold natR; rw [if_neg (by omega)]; simp

set_option maxRecDepth 100000 in
set_option maxHeartbeats 400000 in
theorem bytes_any (s : ByteArray) (hs : s.size ≤ 140737488351232) (w : World) :
    Calls Try.prog 21 #[.string s] w fun e w' => e = .returned (.string (bs (bytesB s.data.toList))) ∧ Below w.heap.size w w' := by
  obtain ⟨i0, hi0, hz0, hz1, hz2⟩ := info_parts info_u8
  have hl9 := natB_len9 (n := s.size) (by omega)
  go_enter Try.func21, Try.ntmps21
  go_wp2_with fail
  refine (appendNat_any w.heap.size _ 0 [] s.size _ (World.ownsRow_nil _ _ _ _) (Nat.le_refl _) (by omega) (by omega)).mono ?_
  rintro e w1 ⟨v1, rfl, ho, hb⟩
  rw [List.nil_append, Nat.zero_add] at ho
  go_wp2_with (at_builtin; refine Lib.wpList_append_own_string _ rfl (.tmp 5) (.tmp 6) 57 9 rfl w.heap.size 5 i0 Try.underlying57 Try.underlying9 hi0 hz0 hz1 hz2 _ _ _ rfl ho s rfl ?c3 ?c4 ?c5 ?_)
  case c3 => unfold maxLen; omega
  case c4 => omega
  case c5 => exact hb.size
  intro v2 w2 hown2 hg2 _
  have ho2 : w2.ownsRow w.heap.size 5 1 v2 ((natB s.size).length + s.size) (u8s (bytesB s.data.toList)) := by
    unfold bytesB
    rw [u8s_append]
    exact hown2
  have hcv := own_string ho2
  go_wp2
  go_ret
  exact ⟨rfl, hb.grown hg2 hb.size (fun q hq => (ho.lt q hq).1)⟩

set_option maxRecDepth 100000 in
set_option maxHeartbeats 400000 in
theorem refBytes_any (s : ByteArray) (hs : s.size ≤ 140737488351232) (w : World) :
    Calls Try.prog 24 #[.string s] w fun e w' => e = .returned (.string (bs (bytesB s.data.toList))) ∧ Below w.heap.size w w' := by
  have hl9 : (bs (natB s.size)).size ≤ 9 := natB_len9 (n := s.size) (by omega)
  have HN := Lib.hid (natR_len s)
  go_enter Try.func24, Try.ntmps24
  go_wp2_with fail
  refine (refNat_any _ (by omega) _).mono ?_
  rw [HN.out]
  rintro e w1 ⟨rfl, hb⟩
  go_wp2
  go_ret
  refine ⟨?_, hb⟩
  show Ending.returned (.string (bs (natB s.size) ++ s)) = _
  rw [bs_append]
  rfl

end Go.Proofs.Ytehclfpjccfmeaa.V1
