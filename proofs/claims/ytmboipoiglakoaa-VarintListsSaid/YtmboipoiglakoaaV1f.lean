/-
  Layer 1, walks: lists of numbers, put.
-/
import Derived.Test.YtmboipoiglakoaaV1e
import Derived.Test.YtmboipoiglakoaaRd
namespace Go.Proofs.Ytmboipoiglakoaa.V1
open Go.RowKit Go.PlainAid

/-- A5's answer. -/
def natsR (zs : List Int) : List UInt8 × Int := if zs.all (fun z => decide (0 ≤ z)) then (listB (zs.map Int.toNat), 0) else ([], 1)

/-- What is put behind k numbers. -/
def pre (zs : List Int) (k : Nat) : List UInt8 := natB zs.length ++ (((zs.take k).map Int.toNat).map natB).flatten

theorem pre_zero (zs : List Int) : pre zs 0 = natB zs.length := by simp [pre]
theorem pre_end (zs : List Int) : pre zs zs.length = listB (zs.map Int.toNat) := by simp [pre, listB]
theorem pre_succ (zs : List Int) (k : Nat) (hk : k < zs.length) : pre zs (k + 1) = pre zs k ++ natB zs[k].toNat := by
  unfold pre
  rw [List.take_succ_eq_append_getElem hk]
  simp only [List.map_append, List.flatten_append, List.map_cons, List.map_nil, List.flatten_cons, List.flatten_nil, List.append_nil, List.append_assoc]
theorem flat_le9 : ∀ (l : List Nat), (∀ n ∈ l, n ≤ 9223372036854775807) → ((l.map natB).flatten).length ≤ 9 * l.length := by
  intro l
  induction l with
  | nil => simp
  | cons n l ih =>
    intro h
    have h1 := natB_len9 (h n (by simp))
    have h2 := ih (fun m hm => h m (by simp [hm]))
    simp at h2 ⊢; omega
theorem pre_len (zs : List Int) (k : Nat) (hz : ∀ z ∈ zs, z ≤ 9223372036854775807) (hn : zs.length ≤ 1000000) : (pre zs k).length ≤ 9000009 := by
  have h1 := natB_len9 (n := zs.length) (by omega)
  have h2 := flat_le9 ((zs.take k).map Int.toNat) (fun n hn => by
    obtain ⟨z, hz1, rfl⟩ := List.mem_map.1 hn
    have := hz z (List.mem_of_mem_take hz1)
    omega)
  simp only [pre, List.length_append]
  have : ((zs.take k).map Int.toNat).length ≤ zs.length := by simp [List.length_take]; omega
  omega

theorem natsR_ok {zs : List Int} (h : ∀ z ∈ zs.take zs.length, 0 ≤ z) : natsR zs = (pre zs zs.length, 0) := by
  unfold natsR
  rw [List.take_length] at h
  rw [if_pos (by simpa using h), pre_end]
theorem natsR_bad {zs : List Int} {k : Nat} (hk : k < zs.length) (h : zs[k] < 0) : natsR zs = ([], 1) := by
  unfold natsR
  rw [if_neg]
  simp only [List.all_eq_true, decide_eq_true_eq]
  intro hall
  have := hall zs[k] (List.getElem_mem hk)
  omega

def NatsRel (B : Nat) (zs : List Int) (w : World) (b i : Value) (wr : World) : Prop :=
  ∃ k : Nat, k ≤ zs.length ∧ i = .int .i64 (k : Int) ∧ (∀ z ∈ zs.take k, 0 ≤ z) ∧ wr.ownsRow B 5 1 b (pre zs k).length (u8s (pre zs k)) ∧ Below B w wr

theorem take_on {zs : List Int} {k : Nat} (hk : k < zs.length) (h : ∀ z ∈ zs.take k, 0 ≤ z) (h2 : 0 ≤ zs[k]) : ∀ z ∈ zs.take (k + 1), 0 ≤ z := by
  rw [List.take_succ_eq_append_getElem hk]
  intro z hz
  rcases List.mem_append.1 hz with hz | hz
  · exact h z hz
  · simp at hz; omega

theorem int_get {zs : List Int} {k : Nat} (h : k < (zs.map (Value.int .i64)).length) : (zs.map (Value.int .i64))[k] = .int .i64 (zs[k]'(by simpa using h)) := by simp

set_option maxRecDepth 100000 in
set_option maxHeartbeats 400000 in
theorem nats_any (A : Option Addr) (n cap : Nat) (zs : List Int) (w : World) (hr : Rd w A (zs.map (Value.int .i64))) (hn : zs.length = n) (hle : n ≤ 1000000)
    (hz : ∀ z ∈ zs, z ≤ 9223372036854775807) :
    Calls Try.prog 23 #[.slice A n cap] w fun e w' => e = .returned (.tuple #[.string (bs (natsR zs).1), .int .i64 (natsR zs).2]) ∧ Below w.heap.size w w' := by
  subst hn
  have HZ := Lib.hid hz
  have HR := Lib.hid hr
  clear hz hr
  have hB : w.heap.size ≤ w.heap.size := Nat.le_refl _
  go_enter Try.func23, Try.ntmps23
  go_wp2_with fail
  refine (appendNat_any w.heap.size _ 0 [] zs.length _ (World.ownsRow_nil _ _ _ _) (Nat.le_refl _) (by omega) (by omega)).mono ?_
  rintro e w1 ⟨v1, rfl, ho, hb⟩
  rw [List.nil_append, Nat.zero_add, ← pre_zero] at ho
  have HO := Lib.hid ho
  clear ho
  go_wp2
  go_loopw [4, 12] (fun b i wr => NatsRel w.heap.size zs w b i wr) (fun _ i _ => zs.length - (intOf i).toNat)
  case atStart => exact ⟨0, by omega, rfl, by simp, HO.out, hb⟩
  case round =>
    obtain ⟨k, hk, rfl, hpos, ho, hbw⟩ := hrel
    have hpl := pre_len zs k HZ.out hle
    have HO2 := Lib.hid ho
    have HP := Lib.hid hpos
    clear hpos ho HO
    by_cases hlt : k < zs.length
    · have hrd := HR.out.keep hbw
      obtain ⟨b, off, rfl, hbl, hc⟩ := hrd.get (k := k) (by simpa using hlt)
      rw [int_get] at hc
      have hzk := HZ.out zs[k] (List.getElem_mem hlt)
      clear hrd
      by_cases hneg : zs[k] < 0
      · have HF := Lib.hid (natsR_bad hlt hneg)
        go_wp2
        go_ret2
        exact ⟨by rw [HF.out]; rfl, hbw⟩
      · obtain ⟨z, hzz⟩ := Int.eq_ofNat_of_zero_le (show 0 ≤ zs[k] by omega)
        have HT := Lib.hid (take_on hlt HP.out (by omega))
        have HE := Lib.hid (pre_succ zs k hlt)
        have HZZ := Lib.hid hzz
        rw [hzz] at hc hzk
        clear hzz hneg
        go_wp2_with fail
        refine (appendNat_any w.heap.size _ _ _ z _ HO2.out hbw.size (by omega) (by omega)).mono ?_
        rintro e w2 ⟨v2, rfl, ho2, hb2⟩
        go_wp2
        go_roundw
        case rel =>
          refine ⟨k + 1, by omega, by go_num, HT.out, ?_, hbw.trans hb2⟩
          rw [HE.out, HZZ.out, u8s_append, List.length_append]
          exact ho2
        case measure => simp [intOf]; omega
    · obtain rfl : k = zs.length := by omega
      have HF := Lib.hid (natsR_ok HP.out)
      have hcv := own_string HO2.out
      go_wp2
      go_ret2
      exact ⟨by rw [HF.out]; rfl, hbw⟩

theorem refNat_as {n : Int} {l : List UInt8} {x : Int} (h : natR n = (l, x)) (hn : n ≤ 9223372036854775807) (w : World) :
    Calls Try.prog 11 #[.int .i64 n] w fun e w' => e = .returned (.tuple #[.string (bs l), .int .i64 x]) ∧ Below w.heap.size w w' := by
  have := refNat_any n hn w
  rw [h] at this
  exact this
theorem natR_nat (n : Nat) : natR (n : Int) = (natB n, 0) := by
  unfold natR; rw [if_neg (by omega)]; simp
theorem natR_neg {n : Int} (h : n < 0) : natR n = ([], 1) := by
  unfold natR; rw [if_pos h]

def RNatsRel (zs : List Int) (w : World) (b i : Value) (wr : World) : Prop :=
  ∃ k : Nat, k ≤ zs.length ∧ i = .int .i64 (k : Int) ∧ (∀ z ∈ zs.take k, 0 ≤ z) ∧ b = .string (bs (pre zs k)) ∧ Below w.heap.size w wr

set_option maxRecDepth 100000 in
set_option maxHeartbeats 400000 in
theorem refNats_any (A : Option Addr) (n cap : Nat) (zs : List Int) (w : World) (hr : Rd w A (zs.map (Value.int .i64))) (hn : zs.length = n) (hle : n ≤ 1000000)
    (hz : ∀ z ∈ zs, z ≤ 9223372036854775807) :
    Calls Try.prog 24 #[.slice A n cap] w fun e w' => e = .returned (.tuple #[.string (bs (natsR zs).1), .int .i64 (natsR zs).2]) ∧ Below w.heap.size w w' := by
  subst hn
  have HZ := Lib.hid hz
  have HR := Lib.hid hr
  have HN := Lib.hid (natR_nat zs.length)
  have HP0 := Lib.hid (pre_zero zs)
  clear hz hr
  go_enter Try.func24, Try.ntmps24
  go_wp2_with fail
  refine (refNat_as HN.out (by omega) _).mono ?_
  rintro e w1 ⟨rfl, hb⟩
  go_wp2
  go_loopw [4, 6] (fun b i wr => RNatsRel zs w b i wr) (fun _ i _ => zs.length - (intOf i).toNat)
  case atStart => exact ⟨0, by omega, rfl, by simp, by rw [HP0.out], hb⟩
  case round =>
    obtain ⟨k, hk, rfl, hpos, rfl, hbw⟩ := hrel
    have hpl : (bs (pre zs k)).size ≤ 9000009 := pre_len zs k HZ.out hle
    have HP := Lib.hid hpos
    clear hpos
    by_cases hlt : k < zs.length
    · have hrd := HR.out.keep hbw
      obtain ⟨b, off, rfl, hbl, hc⟩ := hrd.get (k := k) (by simpa using hlt)
      rw [int_get] at hc
      have hzk := HZ.out zs[k] (List.getElem_mem hlt)
      clear hrd
      by_cases hneg : zs[k] < 0
      · have HF := Lib.hid (natsR_bad hlt hneg)
        have HG := Lib.hid (natR_neg hneg)
        go_wp2_with fail
        refine (refNat_as HG.out (by omega) _).mono ?_
        rintro e w2 ⟨rfl, hb2⟩
        go_wp2
        go_ret2
        exact ⟨by rw [HF.out]; rfl, hbw.trans (hb2.mono hbw.size)⟩
      · obtain ⟨z, hzz⟩ := Int.eq_ofNat_of_zero_le (show 0 ≤ zs[k] by omega)
        have HT := Lib.hid (take_on hlt HP.out (by omega))
        have HE := Lib.hid (pre_succ zs k hlt)
        have HZZ := Lib.hid hzz
        rw [hzz] at hc hzk
        have hz9 : (bs (natB z)).size ≤ 9 := natB_len9 (by omega)
        have HG := Lib.hid (natR_nat z)
        clear hzz hneg
        go_wp2_with fail
        refine (refNat_as HG.out (by omega) _).mono ?_
        rintro e w2 ⟨rfl, hb2⟩
        go_wp2
        go_roundw
        case rel =>
          refine ⟨k + 1, by omega, by go_num, HT.out, ?_, hbw.trans (hb2.mono hbw.size)⟩
          rw [HE.out, HZZ.out, bs_append]
          rfl
        case measure => simp [intOf]; omega
    · obtain rfl : k = zs.length := by omega
      have HF := Lib.hid (natsR_ok HP.out)
      go_wp2
      go_ret2
      exact ⟨by rw [HF.out]; rfl, hbw⟩

set_option maxRecDepth 100000 in
set_option maxHeartbeats 400000 in
theorem same_any (A B : Option Addr) (n c d : Nat) (zs : List Int) (w : World) (ha : Rd w A (zs.map (Value.int .i64))) (hb : Rd w B (zs.map (Value.int .i64))) (hn : zs.length = n) (hle : n ≤ 1000000) :
    Calls Try.prog 27 #[.slice A n c, .slice B n d] w fun e w' => e = .returned (.bool true) ∧ Below w.heap.size w w' := by
  subst hn
  have HA := Lib.hid ha
  have HB := Lib.hid hb
  clear ha hb
  go_enter Try.func27, Try.ntmps27
  go_wp2
  go_loopw [5] (fun i wr => ∃ k : Nat, k ≤ zs.length ∧ i = .int .i64 (k : Int) ∧ Below w.heap.size w wr) (fun i _ => zs.length - (intOf i).toNat)
  case atStart => exact ⟨0, by omega, rfl, Below.refl _ _⟩
  case round =>
    obtain ⟨k, hk, rfl, hbw⟩ := hrel
    by_cases hlt : k < zs.length
    · have h1 := HA.out.keep hbw
      have h2 := HB.out.keep hbw
      obtain ⟨b, off, rfl, hbl, hc⟩ := h1.get (k := k) (by simpa using hlt)
      obtain ⟨b', off', rfl, hbl', hc'⟩ := h2.get (k := k) (by simpa using hlt)
      rw [int_get] at hc hc'
      clear h1 h2
      go_wp2
      go_quiet (fail)
      go_wp2
      go_roundw
      case rel => exact ⟨k + 1, by omega, by go_num, below_drewN hbw nq⟩
      case measure => simp [intOf]; omega
    · obtain rfl : k = zs.length := by omega
      go_wp2
      go_ret
      exact ⟨rfl, hbw⟩

end Go.Proofs.Ytmboipoiglakoaa.V1
