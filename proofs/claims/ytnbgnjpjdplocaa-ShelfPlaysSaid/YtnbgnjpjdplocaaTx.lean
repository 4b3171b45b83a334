/-
  Texts as lists of bytes, rows of bytes and numbers, small facts that every layer's walks use.
-/
import Derived.Test.YtnbgnjpjdplocaaRd
import Derived.WalkKit
import Derived.WalkSpells
import Derived.WalkLawsBesides
import Derived.Lib.Hide
import Derived.BigQuiet
import Derived.Deep.QuietTactic
import Derived.PlainAid
import Derived.Deep.LoopGhost
import Derived.Lib.AppendStr
import Derived.IntWalk
namespace Go.Proofs.Ytnbgnjpjdplocaa
open Go.RowKit Go.PlainAid

def u8s (l : List UInt8) : List Value := l.map fun b => Value.int .u8 b.toNat
theorem u8s_append (a b : List UInt8) : u8s (a ++ b) = u8s a ++ u8s b := by simp [u8s]
theorem u8s_cons (a : UInt8) (b : List UInt8) : u8s (a :: b) = Value.int .u8 a.toNat :: u8s b := rfl
theorem u8s_nil : u8s [] = [] := rfl
theorem u8s_len (a : List UInt8) : (u8s a).length = a.length := by simp [u8s]
theorem info_u8 : (Try.prog.info? 5).map (fun i => (i.zero, i.size, i.bytes)) = some (some (.int .u8 0), 1, 1) := by kernel_rfl
def bs (l : List UInt8) : ByteArray := ⟨l.toArray⟩
theorem bs_list (l : List UInt8) : (bs l).data.toList = l := rfl
theorem bs_of (s : ByteArray) : bs s.data.toList = s := rfl
theorem bs_size (l : List UInt8) : (bs l).size = l.length := rfl
theorem below_drewN {B : Nat} {a w : World} (h : Below B a w) (n : Nat) : Below B a (w.drewN n) := ⟨h.os, h.tape, h.output, h.size, h.block⟩
theorem drop_bt (s : ByteArray) {k : Nat} (h : k < s.size) : ∃ b : UInt8, s.data.toList.drop k = b :: s.data.toList.drop (k + 1) ∧ bt s k = (b.toNat : Int) := by
  have hl : k < s.data.toList.length := by simpa using h
  refine ⟨s.data.toList[k], List.drop_eq_getElem_cons hl, ?_⟩
  unfold bt; rw [dif_pos h]; rfl
theorem ext_list (s : ByteArray) (a b : Nat) : (s.extract a b).data.toList = (s.data.toList.drop a).take (b - a) := by
  obtain ⟨⟨l⟩⟩ := s
  rw [ByteArray.extract_mk]
theorem bs_ext {s t : ByteArray} (h : s.data.toList = t.data.toList) : s = t := ByteArray.ext (Array.toList_inj.1 h)
theorem ext_end (s : ByteArray) (k : Nat) : s.extract k s.size = bs (s.data.toList.drop k) := by
  apply bs_ext
  rw [ext_list, bs_list, List.take_of_length_le]
  have : s.data.toList.length = s.size := rfl
  simp only [List.length_drop]
  omega
theorem ret3 {a a' : Int} {b b' : ByteArray} {c c' : Int} (h1 : a = a') (h2 : b = b') (h3 : c = c') :
    Ending.returned (.tuple #[.int .i64 a, .string b, .int .i64 c]) = Ending.returned (.tuple #[.int .i64 a', .string b', .int .i64 c']) := by rw [h1, h2, h3]
theorem ret3s {a a' b b' : ByteArray} {c c' : Int} (h1 : a = a') (h2 : b = b') (h3 : c = c') :
    Ending.returned (.tuple #[.string a, .string b, .int .i64 c]) = Ending.returned (.tuple #[.string a', .string b', .int .i64 c']) := by rw [h1, h2, h3]
theorem ext_pre (r : List UInt8) (n : Nat) : (bs r).extract 0 n = bs (r.take n) := by
  apply bs_ext
  rw [ext_list, bs_list, bs_list]
  simp
theorem bs_append (a : List UInt8) (s : ByteArray) : bs a ++ s = bs (a ++ s.data.toList) := by
  apply bs_ext
  rw [bs_list]
  simp [bs]
theorem i64_and1023 (n : Int) : bits .and .i64 n 1023 = n % 1024 := by
  have h127 : (BitVec.ofInt 64 1023).toNat = 2 ^ 10 - 1 := by decide
  have key : (BitVec.ofInt 64 n &&& BitVec.ofInt 64 1023).toNat = (n % ((2 ^ 64 : Nat) : Int)).toNat % 2 ^ 10 := by
    rw [BitVec.toNat_and, BitVec.toNat_ofInt, h127, Nat.and_two_pow_sub_one_eq_mod]
  show IntKind.i64.wrap ((BitVec.ofInt 64 n &&& BitVec.ofInt 64 1023).toNat : Nat) = n % 1024
  rw [key, IntKind.wrap_i64]
  omega
theorem i64_and1048575 (n : Int) : bits .and .i64 n 1048575 = n % 1048576 := by
  have h127 : (BitVec.ofInt 64 1048575).toNat = 2 ^ 20 - 1 := by decide
  have key : (BitVec.ofInt 64 n &&& BitVec.ofInt 64 1048575).toNat = (n % ((2 ^ 64 : Nat) : Int)).toNat % 2 ^ 20 := by
    rw [BitVec.toNat_and, BitVec.toNat_ofInt, h127, Nat.and_two_pow_sub_one_eq_mod]
  show IntKind.i64.wrap ((BitVec.ofInt 64 n &&& BitVec.ofInt 64 1048575).toNat : Nat) = n % 1048576
  rw [key, IntKind.wrap_i64]
  omega
theorem mod_in {c n : Nat} (h : 0 < n) : 0 ≤ (c : Int) % (n : Int) ∧ (c : Int) % (n : Int) ≤ (n : Int) := by
  have := Nat.mod_lt c h
  rw [← Int.natCast_emod]
  omega
def ints (l : List Nat) : List Value := l.map fun (n : Nat) => Value.int .i64 (n : Int)
theorem ints_len (l : List Nat) : (ints l).length = l.length := by simp [ints]
theorem ints_snoc (l : List Nat) (n : Nat) : ints (l ++ [n]) = ints l ++ [Value.int .i64 (n : Int)] := by simp [ints]
theorem info_int : (Try.prog.info? 3).map (fun i => (i.zero, i.size, i.bytes)) = some (some (.int .i64 0), 1, 8) := by kernel_rfl
theorem grown_of {w w' : World} (h : Below w.heap.size w w') (row : Option Nat) : w.grownBy w' row := ⟨h.os, h.tape, h.output, h.size, fun i hi _ => h.block i hi⟩
theorem own_keep {w w' : World} {B : Nat} {e : TypeId} {v : Value} {n : Nat} {xs : List Value} (h : w.ownsRow B e 1 v n xs) (hb : Below w.heap.size w w') : w'.ownsRow B e 1 v n xs :=
  h.kept (grown_of hb none) (by cases v.ownBlock <;> simp)
theorem wf_i64 {z : Int} (h : (Lit.int .i64 z).wf = true) : -9223372036854775808 ≤ z ∧ z ≤ 9223372036854775807 := by
  simpa [Lit.wf, IntKind.min, IntKind.max, IntKind.signed, IntKind.bits] using h
theorem ints_eq (l : List Nat) : ints l = (l.map fun (n : Nat) => (n : Int)).map (Value.int .i64) := by simp [ints]
theorem bs_join (a b : List UInt8) : bs a ++ bs b = bs (a ++ b) := bs_append a (bs b)
theorem shape3 {α β : Type} (t : α × β × Int) : t = (t.1, t.2.1, t.2.2) := rfl

end Go.Proofs.Ytnbgnjpjdplocaa
