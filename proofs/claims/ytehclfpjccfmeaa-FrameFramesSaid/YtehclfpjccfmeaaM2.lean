/-
  Layer 2, plain mathematics: bits that fall out, tables, sums.
-/
import Derived.Laws.BitsAllLaws
namespace Go.Proofs.Ytehclfpjccfmeaa.M2
set_option linter.unusedVariables false

def poly : Nat := 0xEDB88320
/-- One bit falls out. -/
def bit1 (c : Nat) : Nat := if c % 2 = 1 then c / 2 ^^^ poly else c / 2
def fall : Nat → Nat → Nat
  | 0, c => c
  | k + 1, c => fall k (bit1 c)
def s8 (c : Nat) : Nat := fall 8 c
def tab : List Nat := (List.range 256).map s8
/-- The sum bit by bit, and by a table. -/
def plain (c : Nat) (l : List UInt8) : Nat := l.foldl (fun c b => s8 (c ^^^ b.toNat)) c
def tsum (t : List Nat) (c : Nat) (l : List UInt8) : Nat := l.foldl (fun c b => c / 256 ^^^ t.getD ((c ^^^ b.toNat) % 256) 0) c

theorem xlt {a b : Nat} (ha : a < 4294967296) (hb : b < 4294967296) : a ^^^ b < 4294967296 := Nat.xor_lt_two_pow (n := 32) ha hb
theorem poly_lt : poly < 4294967296 := by decide
theorem step_lt {c : Nat} (h : c < 4294967296) : bit1 c < 4294967296 := by
  unfold bit1
  split
  · exact xlt (by omega) poly_lt
  · omega
theorem fall_lt (k : Nat) : ∀ {c : Nat}, c < 4294967296 → fall k c < 4294967296 := by
  induction k with
  | zero => exact fun h => h
  | succ k ih => exact fun h => ih (step_lt h)
theorem s8_lt {c : Nat} (h : c < 4294967296) : s8 c < 4294967296 := fall_lt 8 h
theorem fall_add (k j : Nat) : ∀ c, fall (k + j) c = fall j (fall k c) := by
  induction k with
  | zero => intro c; rw [Nat.zero_add]; rfl
  | succ k ih => intro c; rw [Nat.succ_add]; exact ih _
theorem fall_succ (k c : Nat) : fall (k + 1) c = bit1 (fall k c) := fall_add k 1 c

theorem step_xor (a b : Nat) : bit1 (a ^^^ b) = bit1 a ^^^ bit1 b := by
  unfold bit1
  rw [Nat.xor_div_two]
  by_cases ha : a % 2 = 1 <;> by_cases hb : b % 2 = 1 <;> simp only [Nat.xor_mod_two_eq_one, ha, hb]
  · simp only [not_true, if_false, if_true]
    apply Nat.eq_of_testBit_eq; intro i; simp only [Nat.testBit_xor]
    cases (a / 2).testBit i <;> cases (b / 2).testBit i <;> cases poly.testBit i <;> rfl
  · simp
    apply Nat.eq_of_testBit_eq; intro i; simp only [Nat.testBit_xor]
    cases (a / 2).testBit i <;> cases (b / 2).testBit i <;> cases poly.testBit i <;> rfl
  · simp
    apply Nat.eq_of_testBit_eq; intro i; simp only [Nat.testBit_xor]
    cases (a / 2).testBit i <;> cases (b / 2).testBit i <;> cases poly.testBit i <;> rfl
  · simp
theorem fall_xor (k : Nat) : ∀ a b, fall k (a ^^^ b) = fall k a ^^^ fall k b := by
  induction k with
  | zero => intro a b; rfl
  | succ k ih => intro a b; show fall k (bit1 (a ^^^ b)) = _; rw [step_xor]; exact ih _ _
theorem s8_xor (a b : Nat) : s8 (a ^^^ b) = s8 a ^^^ s8 b := fall_xor 8 a b

theorem step_even (m : Nat) : bit1 (2 * m) = m := by
  unfold bit1; rw [if_neg (by omega)]; omega
theorem fall_even (k : Nat) : ∀ m, fall k (2 ^ k * m) = m := by
  induction k with
  | zero => intro m; simp [fall]
  | succ k ih => intro m; show fall k (bit1 (2 ^ (k + 1) * m)) = m; rw [show 2 ^ (k + 1) * m = 2 * (2 ^ k * m) by rw [Nat.pow_succ]; rw [Nat.mul_comm (2 ^ k) 2, Nat.mul_assoc]]; rw [step_even]; exact ih m

theorem split256 (x : Nat) : x = 256 * (x / 256) ^^^ x % 256 := by
  have h : 2 ^ 8 * (x / 256) ^^^ x % 256 = 2 ^ 8 * (x / 256) + x % 256 := by
    apply Nat.eq_of_testBit_eq; intro i
    rw [Nat.testBit_xor, Nat.testBit_two_pow_mul_add _ (show x % 256 < 2 ^ 8 by omega), Nat.testBit_two_pow_mul]
    by_cases hi : i < 8
    · simp [hi, Nat.not_le.2 hi]
    · have : (x % 256).testBit i = false := Nat.testBit_lt_two_pow (Nat.lt_of_lt_of_le (show x % 256 < 2 ^ 8 by omega) (Nat.pow_le_pow_right (by omega) (by omega)))
      simp [hi, this, Nat.le_of_not_lt hi]
  have : (2 : Nat) ^ 8 = 256 := rfl
  rw [this] at h
  rw [h]; omega

/-- With the table: what falls out is looked up. -/
theorem s8_look {c b : Nat} (hb : b < 256) : s8 (c ^^^ b) = c / 256 ^^^ s8 ((c ^^^ b) % 256) := by
  have hd : (c ^^^ b) / 256 = c / 256 := by
    have := Nat.xor_div_two_pow (a := c) (b := b) (n := 8)
    rw [show (2 : Nat) ^ 8 = 256 from rfl, Nat.div_eq_of_lt hb, Nat.xor_zero] at this
    exact this
  have h := s8_xor (256 * ((c ^^^ b) / 256)) ((c ^^^ b) % 256)
  rw [← split256, hd] at h
  rw [h]
  congr 1
  exact fall_even 8 _

theorem tab_len : tab.length = 256 := by simp [tab]
theorem tab_get {k : Nat} (h : k < 256) : tab.getD k 0 = s8 k := by
  unfold tab; rw [List.getD_eq_getElem?_getD]; simp [h]
theorem tab_lt : ∀ x ∈ tab, x < 4294967296 := by
  intro x hx
  obtain ⟨k, hk, rfl⟩ := List.mem_map.1 hx
  exact s8_lt (by have := List.mem_range.1 hk; omega)

theorem tsum_tab (l : List UInt8) : ∀ c, tsum tab c l = plain c l := by
  induction l with
  | nil => intro c; rfl
  | cons b l ih =>
    intro c
    show tsum tab (c / 256 ^^^ tab.getD ((c ^^^ b.toNat) % 256) 0) l = plain (s8 (c ^^^ b.toNat)) l
    rw [tab_get (Nat.mod_lt _ (by omega)), ← s8_look (UInt8.toNat_lt b)]
    exact ih _

theorem getD_lt {t : List Nat} (ht : ∀ x ∈ t, x < 4294967296) (k : Nat) : t.getD k 0 < 4294967296 := by
  rw [List.getD_eq_getElem?_getD]
  cases h : t[k]? with
  | none => simp
  | some x => exact ht x (List.mem_of_getElem? h)
theorem tsum_lt {t : List Nat} (ht : ∀ x ∈ t, x < 4294967296) (l : List UInt8) : ∀ {c}, c < 4294967296 → tsum t c l < 4294967296 := by
  induction l with
  | nil => exact fun h => h
  | cons b l ih => exact fun h => ih (xlt (by omega) (getD_lt ht _))
theorem plain_lt (l : List UInt8) : ∀ {c}, c < 4294967296 → plain c l < 4294967296 := by
  induction l with
  | nil => exact fun h => h
  | cons b l ih => exact fun h => ih (s8_lt (xlt h (by have := UInt8.toNat_lt b; omega)))
theorem tsum_snoc (t : List Nat) (c : Nat) (l : List UInt8) (b : UInt8) : tsum t c (l ++ [b]) = tsum t c l / 256 ^^^ t.getD ((tsum t c l ^^^ b.toNat) % 256) 0 := by
  unfold tsum; rw [List.foldl_append]; rfl
theorem plain_snoc (c : Nat) (l : List UInt8) (b : UInt8) : plain c (l ++ [b]) = s8 (plain c l ^^^ b.toNat) := by
  unfold plain; rw [List.foldl_append]; rfl

/-! One to one. -/
theorem half_inj {a b : Nat} (h : a / 2 = b / 2) (hp : (a % 2 = 1) ↔ (b % 2 = 1)) : a = b := by omega
theorem half_bit {a : Nat} (h : a < 4294967296) : (a / 2).testBit 31 = false := Nat.testBit_lt_two_pow (by omega)
theorem poly_bit : poly.testBit 31 = true := by decide
theorem xor_right_cancel {a b c : Nat} (h : a ^^^ c = b ^^^ c) : a = b := by
  have := congrArg (fun x => x ^^^ c) h
  simp only [Nat.xor_assoc, Nat.xor_self, Nat.xor_zero] at this
  exact this
theorem xor_left_cancel {a b c : Nat} (h : c ^^^ a = c ^^^ b) : a = b := by
  rw [Nat.xor_comm c a, Nat.xor_comm c b] at h; exact xor_right_cancel h
theorem step_inj {a b : Nat} (ha : a < 4294967296) (hb : b < 4294967296) (h : bit1 a = bit1 b) : a = b := by
  unfold bit1 at h
  have h31 := congrArg (fun x => x.testBit 31) h
  by_cases pa : a % 2 = 1 <;> by_cases pb : b % 2 = 1 <;> simp only [pa, pb, if_true, if_false] at h h31
  · exact half_inj (xor_right_cancel h) (by simp [pa, pb])
  · simp [Nat.testBit_xor, half_bit ha, half_bit hb, poly_bit] at h31
  · simp [Nat.testBit_xor, half_bit ha, half_bit hb, poly_bit] at h31
  · exact half_inj h (by simp [pa, pb])
theorem fall_inj (k : Nat) : ∀ {a b : Nat}, a < 4294967296 → b < 4294967296 → fall k a = fall k b → a = b := by
  induction k with
  | zero => exact fun _ _ h => h
  | succ k ih => exact fun ha hb h => step_inj ha hb (ih (step_lt ha) (step_lt hb) h)
theorem u8_lt (b : UInt8) : b.toNat < 4294967296 := by have := UInt8.toNat_lt b; omega
theorem plain_inj (l : List UInt8) : ∀ {a b : Nat}, a < 4294967296 → b < 4294967296 → plain a l = plain b l → a = b := by
  induction l with
  | nil => exact fun _ _ h => h
  | cons x l ih => exact fun ha hb h => xor_right_cancel (fall_inj 8 (xlt ha (u8_lt x)) (xlt hb (u8_lt x)) (ih (s8_lt (xlt ha (u8_lt x))) (s8_lt (xlt hb (u8_lt x))) h))
theorem plain_append (c : Nat) (a b : List UInt8) : plain c (a ++ b) = plain (plain c a) b := by
  unfold plain; rw [List.foldl_append]
/-- One byte that is another one makes another sum. -/
theorem plain_one (c : Nat) (hc : c < 4294967296) (p q : List UInt8) (x y : UInt8) (h : plain c (p ++ x :: q) = plain c (p ++ y :: q)) : x = y := by
  rw [plain_append, plain_append] at h
  have hp := plain_lt p hc
  have h1 : s8 (plain c p ^^^ x.toNat) = s8 (plain c p ^^^ y.toNat) :=
    plain_inj q (s8_lt (xlt hp (u8_lt x))) (s8_lt (xlt hp (u8_lt y))) h
  have h2 := fall_inj 8 (xlt hp (u8_lt x)) (xlt hp (u8_lt y)) h1
  exact UInt8.toNat_inj.1 (xor_left_cancel h2)

/-! Three texts. -/
def tz (a b : List UInt8) : List UInt8 := List.zipWith (fun x y => x ^^^ y) a b
theorem xor4 (a b c d : Nat) : (a ^^^ b) ^^^ (c ^^^ d) = (a ^^^ c) ^^^ (b ^^^ d) := by
  apply Nat.eq_of_testBit_eq; intro i; simp only [Nat.testBit_xor]
  cases a.testBit i <;> cases b.testBit i <;> cases c.testBit i <;> cases d.testBit i <;> rfl
theorem plain_two (a : List UInt8) : ∀ (b : List UInt8) (x y : Nat), a.length = b.length → plain (x ^^^ y) (tz a b) = plain x a ^^^ plain y b := by
  induction a with
  | nil => intro b x y h; cases b with
    | nil => rfl
    | cons _ _ => simp at h
  | cons p a ih => intro b x y h; cases b with
    | nil => simp at h
    | cons q b =>
      show plain (s8 ((x ^^^ y) ^^^ (p ^^^ q).toNat)) (tz a b) = plain (s8 (x ^^^ p.toNat)) a ^^^ plain (s8 (y ^^^ q.toNat)) b
      rw [UInt8.toNat_xor, xor4, s8_xor]
      exact ih b _ _ (by simpa using h)
theorem tz_len (a b : List UInt8) (h : a.length = b.length) : (tz a b).length = a.length := by
  unfold tz; rw [List.length_zipWith]; omega
theorem plain_three (a b d : List UInt8) (x : Nat) (h1 : a.length = b.length) (h2 : a.length = d.length) :
    plain x (tz (tz a b) d) = plain x a ^^^ plain x b ^^^ plain x d := by
  have h := plain_two (tz a b) d (x ^^^ x) x (by rw [tz_len a b h1]; exact h2)
  rw [plain_two a b x x h1, Nat.xor_self, Nat.zero_xor] at h
  exact h

end Go.Proofs.Ytehclfpjccfmeaa.M2
