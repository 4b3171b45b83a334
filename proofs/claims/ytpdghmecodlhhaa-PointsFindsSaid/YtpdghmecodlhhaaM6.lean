/-
  Layer 6, plain mathematics: code points and their bytes.
-/
import Derived.Test.YtpdghmecodlhhaaTx
import Derived.Laws.RangeAny
import Derived.Laws.Cover4
namespace Go.Proofs.Ytpdghmecodlhhaa.M6
open Go.RowKit
set_option linter.unusedVariables false

/-- A code point that may stand in a text. -/
def okc (c : Nat) : Prop := c < 55296 ∨ (57344 ≤ c ∧ c ≤ 1114111)
/-- The bytes of a code point. -/
def enc (c : Nat) : List UInt8 :=
  if c < 128 then [UInt8.ofNat c]
  else if c < 2048 then [UInt8.ofNat (192 + c / 64), UInt8.ofNat (128 + c % 64)]
  else if c < 65536 then [UInt8.ofNat (224 + c / 4096), UInt8.ofNat (128 + c / 64 % 64), UInt8.ofNat (128 + c % 64)]
  else [UInt8.ofNat (240 + c / 262144), UInt8.ofNat (128 + c / 4096 % 64), UInt8.ofNat (128 + c / 64 % 64), UInt8.ofNat (128 + c % 64)]
theorem valid_iff (c : Nat) : Utf8.valid (c : Int) = true ↔ okc c := by
  unfold okc; simp [Utf8.valid]; omega
theorem enc_bs {c : Nat} (h : okc c) : Utf8.encode (c : Int) = bs (enc c) := by
  have hv := (valid_iff c).2 h
  rw [Utf8.encode.eq_1, hv]
  unfold enc
  simp only [if_true, Int.toNat_natCast]
  split
  · rfl
  · split
    · rfl
    · split
      · rfl
      · rfl
def flat (cs : List Nat) : List UInt8 := cs.flatMap enc
theorem flat_cons (c : Nat) (cs : List Nat) : flat (c :: cs) = enc c ++ flat cs := rfl
theorem flat_nil : flat [] = [] := rfl
theorem flat_append (a b : List Nat) : flat (a ++ b) = flat a ++ flat b := by simp [flat]
theorem flat_one (c : Nat) : flat [c] = enc c := by simp [flat]
theorem flat_take (cs : List Nat) (k : Nat) (h : k < cs.length) : flat (cs.take (k + 1)) = flat (cs.take k) ++ enc cs[k] := by
  rw [List.take_succ_eq_append_getElem h, flat_append, flat_one]

/-- The bytes of more than one byte's code point: how many bytes, and what the first tells. -/
def kind (b : Nat) : Option (Nat × Nat) :=
  if 194 ≤ b ∧ b < 224 then some (2, b - 192) else if 224 ≤ b ∧ b < 240 then some (3, b - 224) else if 240 ≤ b ∧ b < 245 then some (4, b - 240) else none
/-- What the bytes behind the first make. -/
def conts : List UInt8 → Nat → Option Nat
  | [], c => some c
  | b :: r, c => if 128 ≤ b.toNat ∧ b.toNat < 192 then conts r (c * 64 + b.toNat - 128) else none
/-- Is it too small for its bytes, or no code point? -/
def wrong (n c : Nat) : Prop := n = 3 ∧ c < 2048 ∨ n = 4 ∧ c < 65536 ∨ c > 1114111 ∨ c ≥ 55296 ∧ c < 57344
instance (n c : Nat) : Decidable (wrong n c) := by unfold wrong; infer_instance
/-- The code point at the head, and how many bytes it has. -/
def pt : List UInt8 → Option (Nat × Nat)
  | [] => none
  | b :: r => if b.toNat < 128 then some (b.toNat, 1) else
    match kind b.toNat with
    | none => none
    | some (n, c0) => if r.length + 1 < n then none else
      match conts (r.take (n - 1)) c0 with
      | none => none
      | some c => if wrong n c then none else some (c, n)

theorem get_bs (l : List UInt8) (k : Nat) : (bs l).get! k = l.getD k 0 := by
  show l.toArray[k]! = _
  simp [List.getD, getElem!_def]
  rfl
theorem dec_drop (l : List UInt8) (i : Nat) (h : i ≤ l.length) : Utf8.decode (bs l) i = Utf8.decode (bs (l.drop i)) 0 := by
  have hg : ∀ k, (bs l).get! (i + k) = (bs (l.drop i)).get! (0 + k) := fun k => by
    rw [get_bs, get_bs, Nat.zero_add]; simp [List.getD, List.getElem?_drop]
  have hs : ∀ k, (i + k < (bs l).size) = (0 + k < (bs (l.drop i)).size) := fun k => by
    rw [bs_size, bs_size, List.length_drop]; apply propext; omega
  simp only [Utf8.decode, hg, hs]

theorem enc1 {c : Nat} (h : c < 128) : enc c = [UInt8.ofNat c] := by
  unfold enc
  rw [if_pos h]
theorem enc2 {c : Nat} (h : 128 ≤ c) (h2 : c < 2048) : enc c = [UInt8.ofNat (192 + c / 64), UInt8.ofNat (128 + c % 64)] := by
  unfold enc
  rw [if_neg (by omega), if_pos h2]
theorem enc3 {c : Nat} (h : 2048 ≤ c) (h2 : c < 65536) : enc c = [UInt8.ofNat (224 + c / 4096), UInt8.ofNat (128 + c / 64 % 64), UInt8.ofNat (128 + c % 64)] := by
  unfold enc
  rw [if_neg (by omega), if_neg (by omega), if_pos h2]
theorem enc4 {c : Nat} (h : 65536 ≤ c) : enc c = [UInt8.ofNat (240 + c / 262144), UInt8.ofNat (128 + c / 4096 % 64), UInt8.ofNat (128 + c / 64 % 64), UInt8.ofNat (128 + c % 64)] := by
  unfold enc
  rw [if_neg (by omega), if_neg (by omega), if_neg (by omega)]
theorem of_eq {b : UInt8} {n : Nat} (h : n = b.toNat) : UInt8.ofNat n = b := by subst h; simp
theorem to_of {n : Nat} (h : n < 256) : (UInt8.ofNat n).toNat = n := by simp; omega

/-- How the model decodes, in bytes of a list. -/
theorem dec_at (b : UInt8) (r : List UInt8) : Utf8.decode (bs (b :: r)) 0 =
    (let at' (k : Nat) : Nat := ((b :: r).getD k 0).toNat
     let cont (k : Nat) : Bool := k < r.length + 1 && at' k / 64 == 2
     let b0 := b.toNat
     if b0 < 0x80 then (b0, 1)
     else if b0 / 32 == 6 && cont 1 then
       let c := (b0 % 32) * 64 + at' 1 % 64
       if c ≥ 0x80 then (c, 2) else (65533, 1)
     else if b0 / 16 == 14 && cont 1 && cont 2 then
       let c := (b0 % 16) * 4096 + (at' 1 % 64) * 64 + at' 2 % 64
       if c ≥ 0x800 && Utf8.valid c then (c, 3) else (65533, 1)
     else if b0 / 8 == 30 && cont 1 && cont 2 && cont 3 then
       let c := (b0 % 8) * 262144 + (at' 1 % 64) * 4096 + (at' 2 % 64) * 64 + at' 3 % 64
       if c ≥ 0x10000 && Utf8.valid c then (c, 4) else (65533, 1)
     else (65533, 1)) := by
  simp only [Utf8.decode, get_bs, bs_size, Nat.zero_add, List.length_cons, Utf8.runeError]
  rfl

/-- Two bytes, as the model decodes them. -/
theorem dec2 (b b1 : UInt8) (r : List UInt8) (hk : 194 ≤ b.toNat ∧ b.toNat < 224) : Utf8.decode (bs (b :: b1 :: r)) 0 =
    if 128 ≤ b1.toNat ∧ b1.toNat < 192 then ((b.toNat - 192) * 64 + b1.toNat - 128, 2) else (65533, 1) := by
  have hb := b.toNat_lt
  have hb1 := b1.toNat_lt
  rw [dec_at]
  have h1 : ¬ b.toNat < 128 := by omega
  have c1 : (b.toNat / 32 == 6) = true := by simp; omega
  have c3 : (b.toNat / 16 == 14) = false := by simp; omega
  have c4 : (b.toNat / 8 == 30) = false := by simp; omega
  simp only [h1, c1, c3, c4, if_false, List.getD_cons_succ, List.getD_cons_zero, List.length_cons, Bool.true_and, Bool.false_and, Bool.false_eq_true]
  by_cases g : 128 ≤ b1.toNat ∧ b1.toNat < 192
  · have c2 : (b1.toNat / 64 == 2) = true := by simp; omega
    refine Eq.trans ?_ (if_pos g).symm
    have hc : b.toNat % 32 * 64 + b1.toNat % 64 = (b.toNat - 192) * 64 + b1.toNat - 128 := by omega
    rw [hc]
    generalize (b.toNat - 192) * 64 + b1.toNat - 128 = c at hc
    simp only [c2, Bool.and_true]
    rw [if_pos (by simp), if_pos (by omega)]
  · have c2 : (b1.toNat / 64 == 2) = false := by simp; omega
    refine Eq.trans ?_ (if_neg g).symm
    simp [c2]
theorem dec2s (b : UInt8) (hk : 194 ≤ b.toNat) : Utf8.decode (bs [b]) 0 = (65533, 1) := by
  rw [dec_at]
  have h1 : ¬ b.toNat < 128 := by omega
  simp [h1]
theorem dec_lone (b : UInt8) (r : List UInt8) (h : 128 ≤ b.toNat) (h2 : b.toNat < 192 ∨ 248 ≤ b.toNat) : Utf8.decode (bs (b :: r)) 0 = (65533, 1) := by
  have hb := b.toNat_lt
  rw [dec_at]
  have h1 : ¬ b.toNat < 128 := by omega
  have c1 : (b.toNat / 32 == 6) = false := by simp; omega
  have c3 : (b.toNat / 16 == 14) = false := by simp; omega
  have c4 : (b.toNat / 8 == 30) = false := by simp; omega
  simp [h1, c1, c3, c4]
/-- 192 and 193: more bytes than there need be. -/
theorem dec_low (b : UInt8) (r : List UInt8) (h : 192 ≤ b.toNat) (h2 : b.toNat < 194) : Utf8.decode (bs (b :: r)) 0 = (65533, 1) := by
  have hb := b.toNat_lt
  rw [dec_at]
  have h1 : ¬ b.toNat < 128 := by omega
  have c1 : (b.toNat / 32 == 6) = true := by simp; omega
  have c3 : (b.toNat / 16 == 14) = false := by simp; omega
  have c4 : (b.toNat / 8 == 30) = false := by simp; omega
  simp only [h1, c1, c3, c4, if_false, Bool.true_and, Bool.false_and, Bool.false_eq_true]
  split
  · rw [if_neg (by omega)]
  · rfl
theorem dec3 (b b1 b2 : UInt8) (r : List UInt8) (hk : 224 ≤ b.toNat ∧ b.toNat < 240) : Utf8.decode (bs (b :: b1 :: b2 :: r)) 0 =
    if (128 ≤ b1.toNat ∧ b1.toNat < 192) ∧ (128 ≤ b2.toNat ∧ b2.toNat < 192) ∧ ¬ wrong 3 (((b.toNat - 224) * 64 + b1.toNat - 128) * 64 + b2.toNat - 128) then (((b.toNat - 224) * 64 + b1.toNat - 128) * 64 + b2.toNat - 128, 3) else (65533, 1) := by
  have hb := b.toNat_lt
  have hb1 := b1.toNat_lt
  have hb2 := b2.toNat_lt
  rw [dec_at]
  have h1 : ¬ b.toNat < 128 := by omega
  have c1 : (b.toNat / 32 == 6) = false := by simp; omega
  have c3 : (b.toNat / 16 == 14) = true := by simp; omega
  have c4 : (b.toNat / 8 == 30) = false := by simp; omega
  simp only [h1, c1, c3, c4, if_false, List.getD_cons_succ, List.getD_cons_zero, List.length_cons, Bool.true_and, Bool.false_and, Bool.false_eq_true]
  by_cases g : 128 ≤ b1.toNat ∧ b1.toNat < 192
  · have d1 : (b1.toNat / 64 == 2) = true := by simp; omega
    by_cases g2 : 128 ≤ b2.toNat ∧ b2.toNat < 192
    · have d2 : (b2.toNat / 64 == 2) = true := by simp; omega
      have hc : b.toNat % 16 * 4096 + b1.toNat % 64 * 64 + b2.toNat % 64 = ((b.toNat - 224) * 64 + b1.toNat - 128) * 64 + b2.toNat - 128 := by omega
      rw [hc]
      generalize ((b.toNat - 224) * 64 + b1.toNat - 128) * 64 + b2.toNat - 128 = c at hc
      have hcl : c < 65536 := by omega
      by_cases hw : wrong 3 c
      · refine Eq.trans ?_ (if_neg (fun h => h.2.2 hw)).symm
        simp only [d1, d2, Bool.and_true]
        rw [if_pos (by simp), if_neg]
        intro hh
        simp only [Bool.and_eq_true, decide_eq_true_eq, valid_iff] at hh
        unfold okc at hh; unfold wrong at hw; omega
      · refine Eq.trans ?_ (if_pos ⟨g, g2, hw⟩).symm
        simp only [d1, d2, Bool.and_true]
        rw [if_pos (by simp), if_pos]
        simp only [Bool.and_eq_true, decide_eq_true_eq, valid_iff]
        unfold okc; unfold wrong at hw; omega
    · have d2 : (b2.toNat / 64 == 2) = false := by simp; omega
      refine Eq.trans ?_ (if_neg (fun h => g2 h.2.1)).symm
      simp [d2]
  · have d1 : (b1.toNat / 64 == 2) = false := by simp; omega
    refine Eq.trans ?_ (if_neg (fun h => g h.1)).symm
    simp [d1]
theorem dec3s (b : UInt8) (r : List UInt8) (hk : 224 ≤ b.toNat) (hr : r.length < 2) : Utf8.decode (bs (b :: r)) 0 = (65533, 1) := by
  have hb := b.toNat_lt
  rw [dec_at]
  have h1 : ¬ b.toNat < 128 := by omega
  have c1 : (b.toNat / 32 == 6) = false := by simp; omega
  have hr2 : ¬ 2 < r.length + 1 := by omega
  simp [h1, c1, hr2]
theorem dec4 (b b1 b2 b3 : UInt8) (r : List UInt8) (hk : 240 ≤ b.toNat ∧ b.toNat < 245) : Utf8.decode (bs (b :: b1 :: b2 :: b3 :: r)) 0 =
    if (128 ≤ b1.toNat ∧ b1.toNat < 192) ∧ (128 ≤ b2.toNat ∧ b2.toNat < 192) ∧ (128 ≤ b3.toNat ∧ b3.toNat < 192) ∧ ¬ wrong 4 ((((b.toNat - 240) * 64 + b1.toNat - 128) * 64 + b2.toNat - 128) * 64 + b3.toNat - 128) then ((((b.toNat - 240) * 64 + b1.toNat - 128) * 64 + b2.toNat - 128) * 64 + b3.toNat - 128, 4) else (65533, 1) := by
  have hb := b.toNat_lt
  have hb1 := b1.toNat_lt
  have hb2 := b2.toNat_lt
  have hb3 := b3.toNat_lt
  rw [dec_at]
  have h1 : ¬ b.toNat < 128 := by omega
  have c1 : (b.toNat / 32 == 6) = false := by simp; omega
  have c3 : (b.toNat / 16 == 14) = false := by simp; omega
  have c4 : (b.toNat / 8 == 30) = true := by simp; omega
  simp only [h1, c1, c3, c4, if_false, List.getD_cons_succ, List.getD_cons_zero, List.length_cons, Bool.true_and, Bool.false_and, Bool.false_eq_true]
  by_cases g : 128 ≤ b1.toNat ∧ b1.toNat < 192
  · have d1 : (b1.toNat / 64 == 2) = true := by simp; omega
    by_cases g2 : 128 ≤ b2.toNat ∧ b2.toNat < 192
    · have d2 : (b2.toNat / 64 == 2) = true := by simp; omega
      by_cases g3 : 128 ≤ b3.toNat ∧ b3.toNat < 192
      · have d3 : (b3.toNat / 64 == 2) = true := by simp; omega
        have hc : b.toNat % 8 * 262144 + b1.toNat % 64 * 4096 + b2.toNat % 64 * 64 + b3.toNat % 64 = (((b.toNat - 240) * 64 + b1.toNat - 128) * 64 + b2.toNat - 128) * 64 + b3.toNat - 128 := by omega
        rw [hc]
        generalize (((b.toNat - 240) * 64 + b1.toNat - 128) * 64 + b2.toNat - 128) * 64 + b3.toNat - 128 = c at hc
        by_cases hw : wrong 4 c
        · refine Eq.trans ?_ (if_neg (fun h => h.2.2.2 hw)).symm
          simp only [d1, d2, d3, Bool.and_true]
          rw [if_pos (by simp), if_neg]
          intro hh
          simp only [Bool.and_eq_true, decide_eq_true_eq, valid_iff] at hh
          unfold okc at hh; unfold wrong at hw; omega
        · refine Eq.trans ?_ (if_pos ⟨g, g2, g3, hw⟩).symm
          simp only [d1, d2, d3, Bool.and_true]
          rw [if_pos (by simp), if_pos]
          simp only [Bool.and_eq_true, decide_eq_true_eq, valid_iff]
          unfold okc; unfold wrong at hw; omega
      · have d3 : (b3.toNat / 64 == 2) = false := by simp; omega
        refine Eq.trans ?_ (if_neg (fun h => g3 h.2.2.1)).symm
        simp [d3]
    · have d2 : (b2.toNat / 64 == 2) = false := by simp; omega
      refine Eq.trans ?_ (if_neg (fun h => g2 h.2.1)).symm
      simp [d2]
  · have d1 : (b1.toNat / 64 == 2) = false := by simp; omega
    refine Eq.trans ?_ (if_neg (fun h => g h.1)).symm
    simp [d1]
theorem dec4s (b : UInt8) (r : List UInt8) (hk : 240 ≤ b.toNat) (hr : r.length < 3) : Utf8.decode (bs (b :: r)) 0 = (65533, 1) := by
  have hb := b.toNat_lt
  rw [dec_at]
  have h1 : ¬ b.toNat < 128 := by omega
  have c1 : (b.toNat / 32 == 6) = false := by simp; omega
  have c3 : (b.toNat / 16 == 14) = false := by simp; omega
  have hr2 : ¬ 3 < r.length + 1 := by omega
  simp [h1, c1, c3, hr2]
/-- 245 to 247: beyond the last. -/
theorem dec_high4 (b : UInt8) (r : List UInt8) (hk : 245 ≤ b.toNat) : Utf8.decode (bs (b :: r)) 0 = (65533, 1) := by
  have hb := b.toNat_lt
  rw [dec_at]
  have h1 : ¬ b.toNat < 128 := by omega
  have c1 : (b.toNat / 32 == 6) = false := by simp; omega
  have c3 : (b.toNat / 16 == 14) = false := by simp; omega
  simp only [h1, c1, c3, if_false, Bool.false_and, Bool.false_eq_true]
  split
  · rename_i hh
    simp only [Bool.and_eq_true, beq_iff_eq] at hh
    rw [if_neg]
    intro h2
    simp only [Bool.and_eq_true, decide_eq_true_eq, valid_iff] at h2
    unfold okc at h2
    omega
  · rfl

/-- The ways that a head can be. -/
theorem pt_ways (l : List UInt8) (hl : l ≠ []) :
    (pt l = none ∧ Utf8.decode (bs l) 0 = (65533, 1)) ∨
    ∃ c n, pt l = some (c, n) ∧ Utf8.decode (bs l) 0 = (c, n) ∧ okc c ∧ l.take n = enc c ∧ 1 ≤ n ∧ n ≤ l.length ∧ (enc c).length = n := by
  match l with
  | [] => exact absurd rfl hl
  | b :: r =>
  have hb := b.toNat_lt
  by_cases h1 : b.toNat < 128
  · refine .inr ⟨b.toNat, 1, by simp [pt, h1], by rw [dec_at]; simp [h1], by unfold okc; omega, by rw [enc1 h1]; simp, by omega, by simp, by rw [enc1 h1]; rfl⟩
  by_cases k2 : 194 ≤ b.toNat ∧ b.toNat < 224
  · have hk : kind b.toNat = some (2, b.toNat - 192) := by unfold kind; rw [if_pos k2]
    match r with
    | [] => exact .inl ⟨by simp [pt, h1, hk], dec2s b k2.1⟩
    | b1 :: r =>
      have hb1 := b1.toNat_lt
      have hd := dec2 b b1 r k2
      by_cases g1 : 128 ≤ b1.toNat ∧ b1.toNat < 192
      · rw [if_pos g1] at hd
        generalize hc : (b.toNat - 192) * 64 + b1.toNat - 128 = c at hd
        have he := enc2 (c := c) (by omega) (by omega)
        refine .inr ⟨c, 2, ?_, hd, by unfold okc; omega, ?_, by omega, by simp, by rw [he]; rfl⟩
        · simp only [pt, if_neg h1, hk]
          rw [if_neg (by simp)]
          simp only [Nat.reduceSub, List.take_succ_cons, List.take_zero, conts, if_pos g1, hc]
          rw [if_neg (by unfold wrong; omega)]
        · rw [he, of_eq (b := b) (by omega), of_eq (b := b1) (by omega)]; rfl
      · rw [if_neg g1] at hd
        refine .inl ⟨?_, hd⟩
        simp only [pt, if_neg h1, hk]
        rw [if_neg (by simp)]
        simp only [Nat.reduceSub, List.take_succ_cons, List.take_zero, conts, if_neg g1]
  by_cases k3 : 224 ≤ b.toNat ∧ b.toNat < 240
  · have hk : kind b.toNat = some (3, b.toNat - 224) := by unfold kind; rw [if_neg k2, if_pos k3]
    match r with
    | [] => exact .inl ⟨by simp [pt, h1, hk], dec3s b _ k3.1 (by simp)⟩
    | [b1] => exact .inl ⟨by simp [pt, h1, hk], dec3s b _ k3.1 (by simp)⟩
    | b1 :: b2 :: r =>
      have hb1 := b1.toNat_lt
      have hb2 := b2.toNat_lt
      have hd := dec3 b b1 b2 r k3
      have hp : pt (b :: b1 :: b2 :: r) = if 128 ≤ b1.toNat ∧ b1.toNat < 192 then (if 128 ≤ b2.toNat ∧ b2.toNat < 192 then (if wrong 3 (((b.toNat - 224) * 64 + b1.toNat - 128) * 64 + b2.toNat - 128) then none else some (((b.toNat - 224) * 64 + b1.toNat - 128) * 64 + b2.toNat - 128, 3)) else none) else none := by
        simp only [pt, if_neg h1, hk]
        rw [if_neg (by simp)]
        simp only [Nat.reduceSub, List.take_succ_cons, List.take_zero, conts]
        by_cases g1 : 128 ≤ b1.toNat ∧ b1.toNat < 192
        · by_cases g2 : 128 ≤ b2.toNat ∧ b2.toNat < 192
          · simp only [if_pos g1, if_pos g2]
          · simp only [if_pos g1, if_neg g2]
        · simp only [if_neg g1]
      by_cases g1 : 128 ≤ b1.toNat ∧ b1.toNat < 192
      · by_cases g2 : 128 ≤ b2.toNat ∧ b2.toNat < 192
        · rw [if_pos g1, if_pos g2] at hp
          generalize hc : ((b.toNat - 224) * 64 + b1.toNat - 128) * 64 + b2.toNat - 128 = c at hd hp
          by_cases hw : wrong 3 c
          · rw [if_pos hw] at hp
            rw [if_neg (fun h => h.2.2 hw)] at hd
            exact .inl ⟨hp, hd⟩
          · rw [if_neg hw] at hp
            rw [if_pos ⟨g1, g2, hw⟩] at hd
            unfold wrong at hw
            have he := enc3 (c := c) (by omega) (by omega)
            refine .inr ⟨c, 3, hp, hd, by unfold okc; omega, ?_, by omega, by simp, by rw [he]; rfl⟩
            rw [he, of_eq (b := b) (by omega), of_eq (b := b1) (by omega), of_eq (b := b2) (by omega)]; rfl
        · rw [if_pos g1, if_neg g2] at hp
          rw [if_neg (fun h => g2 h.2.1)] at hd
          exact .inl ⟨hp, hd⟩
      · rw [if_neg g1] at hp
        rw [if_neg (fun h => g1 h.1)] at hd
        exact .inl ⟨hp, hd⟩
  by_cases k4 : 240 ≤ b.toNat ∧ b.toNat < 245
  · have hk : kind b.toNat = some (4, b.toNat - 240) := by unfold kind; rw [if_neg k2, if_neg k3, if_pos k4]
    match r with
    | [] => exact .inl ⟨by simp [pt, h1, hk], dec4s b _ k4.1 (by simp)⟩
    | [b1] => exact .inl ⟨by simp [pt, h1, hk], dec4s b _ k4.1 (by simp)⟩
    | [b1, b2] => exact .inl ⟨by simp [pt, h1, hk], dec4s b _ k4.1 (by simp)⟩
    | b1 :: b2 :: b3 :: r =>
      have hb1 := b1.toNat_lt
      have hb2 := b2.toNat_lt
      have hb3 := b3.toNat_lt
      have hd := dec4 b b1 b2 b3 r k4
      have hp : pt (b :: b1 :: b2 :: b3 :: r) = if 128 ≤ b1.toNat ∧ b1.toNat < 192 then (if 128 ≤ b2.toNat ∧ b2.toNat < 192 then (if 128 ≤ b3.toNat ∧ b3.toNat < 192 then (if wrong 4 ((((b.toNat - 240) * 64 + b1.toNat - 128) * 64 + b2.toNat - 128) * 64 + b3.toNat - 128) then none else some ((((b.toNat - 240) * 64 + b1.toNat - 128) * 64 + b2.toNat - 128) * 64 + b3.toNat - 128, 4)) else none) else none) else none := by
        simp only [pt, if_neg h1, hk]
        rw [if_neg (by simp)]
        simp only [Nat.reduceSub, List.take_succ_cons, List.take_zero, conts]
        by_cases g1 : 128 ≤ b1.toNat ∧ b1.toNat < 192
        · by_cases g2 : 128 ≤ b2.toNat ∧ b2.toNat < 192
          · by_cases g3 : 128 ≤ b3.toNat ∧ b3.toNat < 192
            · simp only [if_pos g1, if_pos g2, if_pos g3]
            · simp only [if_pos g1, if_pos g2, if_neg g3]
          · simp only [if_pos g1, if_neg g2]
        · simp only [if_neg g1]
      by_cases g1 : 128 ≤ b1.toNat ∧ b1.toNat < 192
      · by_cases g2 : 128 ≤ b2.toNat ∧ b2.toNat < 192
        · by_cases g3 : 128 ≤ b3.toNat ∧ b3.toNat < 192
          · rw [if_pos g1, if_pos g2, if_pos g3] at hp
            generalize hc : (((b.toNat - 240) * 64 + b1.toNat - 128) * 64 + b2.toNat - 128) * 64 + b3.toNat - 128 = c at hd hp
            by_cases hw : wrong 4 c
            · rw [if_pos hw] at hp
              rw [if_neg (fun h => h.2.2.2 hw)] at hd
              exact .inl ⟨hp, hd⟩
            · rw [if_neg hw] at hp
              rw [if_pos ⟨g1, g2, g3, hw⟩] at hd
              unfold wrong at hw
              have he := enc4 (c := c) (by omega)
              refine .inr ⟨c, 4, hp, hd, by unfold okc; omega, ?_, by omega, by simp, by rw [he]; rfl⟩
              rw [he, of_eq (b := b) (by omega), of_eq (b := b1) (by omega), of_eq (b := b2) (by omega), of_eq (b := b3) (by omega)]; rfl
          · rw [if_pos g1, if_pos g2, if_neg g3] at hp
            rw [if_neg (fun h => g3 h.2.2.1)] at hd
            exact .inl ⟨hp, hd⟩
        · rw [if_pos g1, if_neg g2] at hp
          rw [if_neg (fun h => g2 h.2.1)] at hd
          exact .inl ⟨hp, hd⟩
      · rw [if_neg g1] at hp
        rw [if_neg (fun h => g1 h.1)] at hd
        exact .inl ⟨hp, hd⟩
  have hk : kind b.toNat = none := by unfold kind; rw [if_neg k2, if_neg k3, if_neg k4]
  refine .inl ⟨by simp [pt, h1, hk], ?_⟩
  by_cases h5 : 245 ≤ b.toNat
  · exact dec_high4 b r h5
  by_cases h6 : b.toNat < 192
  · exact dec_lone b r (by omega) (.inl h6)
  · exact dec_low b r (by omega) (by omega)

/-- Where no code point stands, neither does the one that says so. -/
theorem pt_none_pre {l : List UInt8} (h : pt l = none) : ¬ l.take 3 = [239, 191, 189] := by
  intro h3
  match l, h3 with
  | b :: b1 :: b2 :: r, h3 =>
    simp at h3
    obtain ⟨rfl, rfl, rfl⟩ := h3
    have : pt (239 :: 191 :: 189 :: r) = some (65533, 3) := by
      show pt (239 :: 191 :: 189 :: r) = _
      simp [pt, kind, conts, wrong]
    rw [this] at h
    cases h
theorem enc_fffd : enc 65533 = [239, 191, 189] := by
  rw [enc3 (by omega) (by omega)]; decide
/-- Each code point's bytes are read as it. -/
theorem pt_enc {c : Nat} (h : okc c) (r : List UInt8) : pt (enc c ++ r) = some (c, (enc c).length) := by
  unfold okc at h
  by_cases h1 : c < 128
  · rw [enc1 h1]
    have t := to_of (n := c) (by omega)
    simp only [List.cons_append, List.nil_append, pt, t, if_pos h1, List.length_cons, List.length_nil]
  by_cases h2 : c < 2048
  · rw [enc2 (by omega) h2]
    have t := to_of (n := 192 + c / 64) (by omega)
    have t1 := to_of (n := 128 + c % 64) (by omega)
    have hk : kind (192 + c / 64) = some (2, 192 + c / 64 - 192) := by unfold kind; rw [if_pos (by omega)]
    simp only [List.cons_append, List.nil_append, pt, t, List.length_cons, List.length_nil, hk]
    rw [if_neg (by omega), if_neg (by omega)]
    simp only [Nat.reduceSub, List.take_succ_cons, List.take_zero, conts, t1]
    rw [if_pos (by omega)]
    simp only
    rw [if_neg (by unfold wrong; omega), show (192 + c / 64 - 192) * 64 + (128 + c % 64) - 128 = c by omega]
  by_cases h3 : c < 65536
  · rw [enc3 (by omega) h3]
    have t := to_of (n := 224 + c / 4096) (by omega)
    have t1 := to_of (n := 128 + c / 64 % 64) (by omega)
    have t2 := to_of (n := 128 + c % 64) (by omega)
    have hk : kind (224 + c / 4096) = some (3, 224 + c / 4096 - 224) := by unfold kind; rw [if_neg (by omega), if_pos (by omega)]
    simp only [List.cons_append, List.nil_append, pt, t, List.length_cons, List.length_nil, hk]
    rw [if_neg (by omega), if_neg (by omega)]
    simp only [Nat.reduceSub, List.take_succ_cons, List.take_zero, conts, t1, t2]
    rw [if_pos (by omega), if_pos (by omega)]
    simp only
    have e : ((224 + c / 4096 - 224) * 64 + (128 + c / 64 % 64) - 128) * 64 + (128 + c % 64) - 128 = c := by omega
    rw [e, if_neg (by unfold wrong; omega)]
  · rw [enc4 (by omega)]
    have t := to_of (n := 240 + c / 262144) (by omega)
    have t1 := to_of (n := 128 + c / 4096 % 64) (by omega)
    have t2 := to_of (n := 128 + c / 64 % 64) (by omega)
    have t3 := to_of (n := 128 + c % 64) (by omega)
    have hk : kind (240 + c / 262144) = some (4, 240 + c / 262144 - 240) := by unfold kind; rw [if_neg (by omega), if_neg (by omega), if_pos (by omega)]
    simp only [List.cons_append, List.nil_append, pt, t, List.length_cons, List.length_nil, hk]
    rw [if_neg (by omega), if_neg (by omega)]
    simp only [Nat.reduceSub, List.take_succ_cons, List.take_zero, conts, t1, t2, t3]
    rw [if_pos (by omega), if_pos (by omega), if_pos (by omega)]
    simp only
    have e : (((240 + c / 262144 - 240) * 64 + (128 + c / 4096 % 64) - 128) * 64 + (128 + c / 64 % 64) - 128) * 64 + (128 + c % 64) - 128 = c := by omega
    rw [e, if_neg (by unfold wrong; omega)]
theorem enc_pos (c : Nat) : 1 ≤ (enc c).length ∧ (enc c).length ≤ 4 := by
  unfold enc
  split
  · simp
  · split
    · simp
    · split <;> simp

/-- Code points, and what stands behind them: nothing, or what is none. -/
structure Reads (l : List UInt8) (cs : List Nat) (r : List UInt8) : Prop where
  split : l = flat cs ++ r
  ok : ∀ c ∈ cs, okc c
  stuck : pt r = none
theorem reads : ∀ (n : Nat) (l : List UInt8), l.length ≤ n → ∃ cs r, Reads l cs r := by
  intro n
  induction n with
  | zero => intro l h; exact ⟨[], l, rfl, by simp, by rw [List.eq_nil_of_length_eq_zero (l := l) (by omega)]; rfl⟩
  | succ n ih =>
    intro l h
    by_cases hl : l = []
    · exact ⟨[], l, rfl, by simp, by rw [hl]; rfl⟩
    · rcases pt_ways l hl with ⟨h1, _⟩ | ⟨c, k, h1, _, hv, ht, hk, hkl, _⟩
      · exact ⟨[], l, rfl, by simp, h1⟩
      · obtain ⟨cs, r, h2, h3, h4⟩ := ih (l.drop k) (by rw [List.length_drop]; omega)
        refine ⟨c :: cs, r, ?_, by simpa using ⟨hv, h3⟩, h4⟩
        rw [flat_cons, List.append_assoc, ← h2, ← ht, List.take_append_drop]

/-- What a step of decoding gives at a place of a text. -/
theorem Reads.at {l r : List UInt8} {cs : List Nat} (h : Reads l cs r) {k : Nat} (hk : k < cs.length) :
    l.drop (flat (cs.take k)).length = enc cs[k] ++ (flat (cs.drop (k + 1)) ++ r) ∧ (flat (cs.take k)).length < l.length := by
  have e : l = flat (cs.take k) ++ (enc cs[k] ++ (flat (cs.drop (k + 1)) ++ r)) := by
    rw [h.split]
    conv => lhs; rw [← List.take_append_drop k cs, List.drop_eq_getElem_cons hk]
    rw [flat_append, flat_cons]; simp
  refine ⟨by conv => lhs; rw [e, List.drop_left], ?_⟩
  have := congrArg List.length e
  have := enc_pos cs[k]
  simp only [List.length_append] at *
  omega
theorem Reads.dec {l r : List UInt8} {cs : List Nat} (h : Reads l cs r) {k : Nat} (hk : k < cs.length) :
    Utf8.decode (bs l) (flat (cs.take k)).length = (cs[k], (enc cs[k]).length) := by
  obtain ⟨h1, h2⟩ := h.at hk
  rw [dec_drop _ _ (by omega), h1]
  have hv := h.ok _ (List.getElem_mem hk)
  have hne : enc cs[k] ++ (flat (cs.drop (k + 1)) ++ r) ≠ [] := by
    intro h; have := congrArg List.length h; have := enc_pos cs[k]; simp only [List.length_append, List.length_nil] at *; omega
  rcases pt_ways _ hne with ⟨g, _⟩ | ⟨c, n, g, g2, _⟩
  · rw [pt_enc hv] at g; cases g
  · rw [pt_enc hv] at g; injection g with g; rw [g2, ← g]
theorem Reads.dec_end {l r : List UInt8} {cs : List Nat} (h : Reads l cs r) (hr : r ≠ []) :
    Utf8.decode (bs l) (flat cs).length = (65533, 1) ∧ ¬ (l.drop (flat cs).length).take 3 = [239, 191, 189] ∧ (flat cs).length < l.length := by
  have e : l.drop (flat cs).length = r := by rw [h.split, List.drop_left]
  have hl : l.length = (flat cs).length + r.length := by rw [h.split, List.length_append]
  have hp : 0 < r.length := List.length_pos_iff.2 hr
  refine ⟨?_, by rw [e]; exact pt_none_pre h.stuck, by omega⟩
  rw [dec_drop _ _ (by omega), e]
  rcases pt_ways r hr with ⟨_, g⟩ | ⟨c, n, g, _⟩
  · exact g
  · rw [h.stuck] at g; cases g
theorem Reads.pre {l r : List UInt8} {cs : List Nat} (h : Reads l cs r) {k : Nat} (hk : k < cs.length) (hf : cs[k] = 65533) :
    (l.drop (flat (cs.take k)).length).take 3 = [239, 191, 189] := by
  rw [(h.at hk).1, hf, enc_fffd]; rfl
theorem reads_flat {cs : List Nat} (h : ∀ c ∈ cs, okc c) : Reads (flat cs) cs [] := ⟨by simp, h, rfl⟩
theorem flat_len_le {cs : List Nat} : cs.length ≤ (flat cs).length := by
  induction cs with
  | nil => simp
  | cons c cs ih => rw [flat_cons, List.length_append, List.length_cons]; have := enc_pos c; omega
theorem flat_len_ge {cs : List Nat} : (flat cs).length ≤ 4 * cs.length := by
  induction cs with
  | nil => simp [flat]
  | cons c cs ih => rw [flat_cons, List.length_append, List.length_cons]; have := enc_pos c; omega

end Go.Proofs.Ytpdghmecodlhhaa.M6
