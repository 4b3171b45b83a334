/-
  Layer 6, walks: Ident, the program's and the document's.
-/
import Derived.Test.YtpdghmecodlhhaaP6d
namespace Go.Proofs.Ytpdghmecodlhhaa.P6
open Go.RowKit Go.PlainAid M6
set_option linter.unusedVariables false

/-- So far an identifier. -/
def Sofar (l : List UInt8) (k : Nat) : Prop := (∀ b ∈ l.take k, partN b.toNat = true) ∧ (0 < k → ∀ b r, l = b :: r → letterN b.toNat = true)
theorem sofar_zero (l : List UInt8) : Sofar l 0 := ⟨by simp, by omega⟩
theorem Sofar.step {l : List UInt8} {k : Nat} (h : Sofar l k) (hk : k < l.length) (hp : partN l[k].toNat = true) (hl : k = 0 → letterN l[k].toNat = true) : Sofar l (k + 1) := by
  refine ⟨?_, ?_⟩
  · rw [List.take_succ_eq_append_getElem hk]
    intro b hb
    rcases List.mem_append.1 hb with hb | hb
    · exact h.1 b hb
    · rw [List.mem_singleton.1 hb]; exact hp
  · intro _ b r e
    by_cases h0 : k = 0
    · subst h0
      have := hl rfl
      subst e
      exact this
    · exact h.2 (by omega) b r e
theorem Sofar.ident {l : List UInt8} (h : Sofar l l.length) : identB l = !l.isEmpty := by
  match l, h with
  | [], _ => rfl
  | b :: r, h =>
    have h1 := h.2 (by simp) b r rfl
    have h2 := h.1
    rw [List.take_length] at h2
    simp only [identB, h1, Bool.true_and, List.isEmpty_cons, Bool.not_false, List.all_eq_true]
    exact fun x hx => h2 x (by simp [hx])
theorem ident_part {l : List UInt8} {k : Nat} (hk : k < l.length) (h : partN l[k].toNat = false) : identB l = false := by
  cases hi : identB l
  · rfl
  · have := identB_parts hi l[k] (List.getElem_mem hk)
    rw [h] at this; cases this
theorem ident_letter {l : List UInt8} (hk : 0 < l.length) (h : letterN l[0].toNat = false) : identB l = false := by
  match l, hk, h with
  | b :: r, _, h =>
    have h : letterN b.toNat = false := h
    simp [identB, h]

/-- WHAT THE LOOP OF Ident KEEPS. -/
def IdRel (l : List UInt8) (w : World) (wr : World) : Prop :=
  ∃ k : Nat, k ≤ l.length ∧ It wr w.heap.size l k ∧ Sofar l k ∧ Below w.heap.size w wr

set_option maxRecDepth 100000 in
set_option maxHeartbeats 1000000 in
theorem ident_any (l : List UInt8) (hz : l.length ≤ 9223372036854775807) (w : World) :
    Calls Try.prog 21 #[.string (bs l)] w fun e w' => e = .returned (.bool (identB l)) ∧ Below w.heap.size w w' := by
  have h0 : IdRel l w (w.iter (bs l) 0) := ⟨0, by omega, It.new w l, sofar_zero l, below_iter w l⟩
  have H0 := Lib.hid h0
  clear h0
  go_enter Try.func21, Try.ntmps21
  go_wp2
  go_loopw [4] (fun _ wr => IdRel l w wr) (fun _ wr => l.length - wr.iterPos w.heap.size)
  case atStart => exact H0.out
  case round =>
    clear H0
    obtain ⟨k, hk, hit, hs, hb⟩ := hrel
    have HS := Lib.hid hs
    clear hs
    have hpos := hit.pos
    by_cases hlt : k < l.length
    · have hkb : k < (bs l).size := by rw [bs_size]; exact hlt
      have hgk : ((bs l)[k]'hkb) = l[k] := rfl
      by_cases h128 : l[k].toNat < 128
      · have hd : Utf8.decode (bs l) k = (l[k].toNat, 1) := by
          rw [decode_ascii (bs l) k hkb (by rw [hgk]; exact h128), hgk]
        have hnx := fun ty => hit.next (P := Try.prog) hlt hd ty
        have hit1 := hit.moved (k + 1)
        have hb1 := Lib.below_iterAt hb (Nat.le_refl _) (bs l) (k + 1)
        have HP := Lib.hid (fun (h1 : partN l[k].toNat = true) (h2 : k = 0 → letterN l[k].toNat = true) => HS.out.step hlt h1 h2)
        have HQ := Lib.hid (fun h => ident_part hlt h)
        have HL := Lib.hid (fun (h0 : k = 0) (h : letterN l[k].toNat = false) => show identB l = false by subst h0; exact ident_letter hlt h)
        have pp := part_any l[k].toNat
        have ll := letter_any l[k].toNat
        have PP := Lib.hid pp
        have LL := Lib.hid ll
        clear hit hb hd hgk pp ll
        generalize wr.iterAt w.heap.size (bs l) (k + 1) = W1 at hnx hit1 hb1
        generalize l[k].toNat = c at *
        have hit1 : It W1 w.heap.size l (k + 1) := hit1
        cases hp : partN c with
        | false =>
          have HF := Lib.hid (HQ.out hp)
          rw [hp] at PP
          go_wp2_with fail
          refine (PP.out _).mono ?_
          rintro e w1 ⟨rfl, rfl⟩
          go_wp2
          go_ret
          exact ⟨by rw [HF.out]; rfl, hb1⟩
        | true =>
          rw [hp] at PP
          by_cases h0 : k = 0
          · cases hle : letterN c with
            | false =>
              have HF := Lib.hid (HL.out h0 hle)
              rw [hle] at LL
              subst h0
              go_wp2_with fail
              refine (PP.out _).mono ?_
              rintro e w1 ⟨rfl, rfl⟩
              go_wp2_with fail
              refine (LL.out _).mono ?_
              rintro e w1 ⟨rfl, rfl⟩
              go_wp2
              go_ret
              exact ⟨by rw [HF.out]; rfl, hb1⟩
            | true =>
              have HT := Lib.hid (HP.out hp (fun _ => hle))
              rw [hle] at LL
              subst h0
              go_wp2_with fail
              refine (PP.out _).mono ?_
              rintro e w1 ⟨rfl, rfl⟩
              go_wp2_with fail
              refine (LL.out _).mono ?_
              rintro e w1 ⟨rfl, rfl⟩
              go_wp2
              go_roundw
              case rel => exact ⟨0 + 1, by omega, hit1, HT.out, hb1⟩
              case measure => rw [hpos, hit1.pos]; omega
          · have HT := Lib.hid (HP.out hp (fun h => absurd h h0))
            have hk0 : ((k : Int) == 0) = false := by simp; omega
            clear h0
            go_wp2_with fail
            refine (PP.out _).mono ?_
            rintro e w1 ⟨rfl, rfl⟩
            go_wp2
            go_roundw
            case rel => exact ⟨k + 1, by omega, hit1, HT.out, hb1⟩
            case measure => rw [hpos, hit1.pos]; omega
      · have hh := decode_high (bs l) k hkb (by rw [hgk]; omega)
        obtain ⟨c, n, hd⟩ : ∃ c n, Utf8.decode (bs l) k = (c, n) := ⟨_, _, rfl⟩
        rw [hd] at hh
        have hnx := fun ty => hit.next (P := Try.prog) hlt hd ty
        have hb1 := Lib.below_iterAt hb (Nat.le_refl _) (bs l) (k + n)
        have hpf : ∀ x : Nat, 128 ≤ x → partN x = false := fun x hx => by
          cases hp : partN x
          · rfl
          · have := part_lt hp; omega
        have HF := Lib.hid (ident_part hlt (hpf _ (by omega)))
        have pp := part_any c
        rw [hpf c hh.1] at pp
        have PP := Lib.hid pp
        clear hit hb hd hgk pp hpf hh
        generalize wr.iterAt w.heap.size (bs l) (k + n) = W1 at hnx hb1
        go_wp2_with fail
        refine (PP.out _).mono ?_
        rintro e w1 ⟨rfl, rfl⟩
        go_wp2
        go_ret
        exact ⟨by rw [HF.out]; rfl, hb1⟩
    · obtain rfl : k = l.length := by omega
      have hnx := fun ty => hit.done (P := Try.prog) (Nat.le_refl _) ty
      have hid : identB l = !(bs l).toList.isEmpty := by rw [bs_toList]; exact HS.out.ident
      have HI := Lib.hid hid
      clear hid
      go_wp2
      go_ret
      exact ⟨ret1b (by rw [HI.out]), hb⟩

set_option maxRecDepth 100000 in
set_option maxHeartbeats 400000 in
theorem refLetter_no (s : ByteArray) (h : s.size ≠ 1) (w : World) : Calls Try.prog 32 #[.string s] w fun e w' => e = .returned (.bool false) ∧ w = w' := by
  have hb : ((s.size : Int) == 1) = false := by simp; omega
  clear h
  go_enter Try.func32, Try.ntmps32
  go_wp2
  go_ret
  exact ⟨rfl, rfl⟩
theorem refLetter_any (l : List UInt8) (w : World) : Calls Try.prog 32 #[.string (bs l)] w fun e w' => e = .returned (.bool (letS l)) ∧ w = w' := by
  match l with
  | [] => exact refLetter_no _ (by rw [bs_size]; simp) w
  | [b] => exact refLetter_one b w
  | a :: b :: r => exact refLetter_no _ (by rw [bs_size]; simp) w

set_option maxRecDepth 100000 in
set_option maxHeartbeats 400000 in
theorem refPart_no (s : ByteArray) (h : s.size ≠ 1) (w : World) : Calls Try.prog 30 #[.string s] w fun e w' => e = .returned (.bool false) ∧ w = w' := by
  have hb : ((s.size : Int) == 1) = false := by simp; omega
  have HL := Lib.hid (refLetter_no s h)
  clear h
  go_enter Try.func30, Try.ntmps30
  go_wp2_with fail
  refine (HL.out _).mono ?_
  rintro e w1 ⟨rfl, rfl⟩
  go_wp2
  go_ret
  exact ⟨rfl, rfl⟩

set_option maxRecDepth 100000 in
set_option maxHeartbeats 400000 in
theorem refPart_one (b : UInt8) (w : World) : Calls Try.prog 30 #[.string (bs [b])] w fun e w' => e = .returned (.bool (partN b.toNat)) ∧ w = w' := by
  have hb : (bs [b]).size = 1 := rfl
  have hx : ∀ h : 0 < (bs [b]).size, (bs [b])[0]'h = b := fun _ => rfl
  have hl := refLetter_one b
  unfold partN
  cases h : letterN b.toNat
  all_goals
    rw [h] at hl
    have HL := Lib.hid hl
    clear hl
    go_enter Try.func30, Try.ntmps30
    go_wp2_with fail
    refine (HL.out _).mono ?_
    rintro e w1 ⟨rfl, rfl⟩
    go_wp2
  all_goals go_ret
  all_goals refine ⟨ret1b ?_, rfl⟩
  all_goals
    rw [Bool.eq_iff_iff]
    simp
    try omega
theorem refPart_any (l : List UInt8) (w : World) : Calls Try.prog 30 #[.string (bs l)] w fun e w' => e = .returned (.bool (parS l)) ∧ w = w' := by
  match l with
  | [] => exact refPart_no _ (by rw [bs_size]; simp) w
  | [b] => exact refPart_one b w
  | a :: b :: r => exact refPart_no _ (by rw [bs_size]; simp) w
theorem refPart_enc (c : Nat) (w : World) : Calls Try.prog 30 #[.string (bs (enc c))] w fun e w' => e = .returned (.bool (partN c)) ∧ w = w' := by
  have := refPart_any (enc c) w
  rw [parS_enc] at this
  exact this

theorem ext_one (l : List UInt8) (k : Nat) (h : k < l.length) : (bs l).extract k (k + 1) = bs [l[k]] := by
  apply bs_ext
  rw [ext_list, bs_list, bs_list, List.drop_eq_getElem_cons h, show k + 1 - k = 1 by omega]
  rfl

set_option maxRecDepth 100000 in
set_option maxHeartbeats 400000 in
theorem refIdent_nil (w : World) : Calls Try.prog 22 #[.string (bs [])] w fun e w' => e = .returned (.bool false) ∧ w = w' := by
  have h0 : (bs []).toList.isEmpty = true := by rw [bs_toList]; rfl
  go_enter Try.func22, Try.ntmps22
  go_wp2
  go_ret
  exact ⟨rfl, rfl⟩
set_option maxRecDepth 100000 in
set_option maxHeartbeats 1000000 in
theorem refIdent_any (l : List UInt8) (hz : l.length ≤ 1099511627776) (w : World) :
    Calls Try.prog 22 #[.string (bs l)] w fun e w' => e = .returned (.bool (identB l)) ∧ w = w' := by
  by_cases hl : l = []
  · subst hl; exact refIdent_nil w
  have hlen : 0 < l.length := List.length_pos_iff.2 hl
  have h0 : (bs l).toList.isEmpty = false := by rw [bs_toList]; simpa using hl
  have h1 : 1 ≤ (bs l).size := by rw [bs_size]; omega
  have e1 : (bs l).extract 0 1 = bs [l[0]] := ext_one l 0 hlen
  have hll := refLetter_one l[0]
  have hlz : (bs l).size = l.length := rfl
  have HE := Lib.hid e1
  cases hle : letterN l[0].toNat with
  | false =>
    have HF := Lib.hid (ident_letter hlen hle)
    rw [hle] at hll
    have HL := Lib.hid hll
    clear hll e1 hle hlz
    go_enter Try.func22, Try.ntmps22
    go_wp2_with fail
    rw [HE.out]
    refine (HL.out _).mono ?_
    rintro e w1 ⟨rfl, rfl⟩
    go_wp2
    go_ret
    exact ⟨by rw [HF.out]; rfl, rfl⟩
  | true =>
    rw [hle] at hll
    have HL := Lib.hid hll
    have HLE := Lib.hid hle
    have hsz : (bs l).size ≤ 1099511627776 := hz
    clear hll e1 hle
    go_enter Try.func22, Try.ntmps22
    go_wp2_with fail
    rw [HE.out]
    refine (HL.out _).mono ?_
    rintro e w1 ⟨rfl, rfl⟩
    go_wp2
    go_loop [3] (fun i => ∃ k : Nat, k ≤ l.length ∧ i = .int .i64 (k : Int) ∧ Sofar l k) (fun i => l.length - (intOf i).toNat)
    case atStart => exact ⟨0, by omega, rfl, sofar_zero l⟩
    case round =>
      obtain ⟨k, hk, rfl, hs⟩ := hrel
      have HS := Lib.hid hs
      clear hs
      by_cases hlt : k < l.length
      · have hks : k < (bs l).size := hlt
        have HX := Lib.hid (ext_one l k hlt)
        have hp := refPart_one l[k]
        have HN := Lib.hid (fun (h1 : partN l[k].toNat = true) => HS.out.step hlt h1 (fun h0 => by subst h0; exact HLE.out))
        cases hpk : partN l[k].toNat with
        | false =>
          have HF := Lib.hid (ident_part hlt hpk)
          rw [hpk] at hp
          have HP := Lib.hid hp
          clear hp hpk
          go_wp2_with fail
          rw [HX.out]
          refine (HP.out _).mono ?_
          rintro e w1 ⟨rfl, rfl⟩
          go_wp2
          go_ret
          exact ⟨by rw [HF.out]; rfl, rfl⟩
        | true =>
          have HN2 := Lib.hid (HN.out hpk)
          rw [hpk] at hp
          have HP := Lib.hid hp
          clear hp hpk
          go_wp2_with fail
          rw [HX.out]
          refine (HP.out _).mono ?_
          rintro e w1 ⟨rfl, rfl⟩
          go_wp2
          go_round
          case rel => exact ⟨k + 1, by omega, by go_num, HN2.out⟩
          case measure => simp [intOf]; omega
      · obtain rfl : k = l.length := by omega
        have hid : identB l = true := by rw [HS.out.ident]; simpa using hl
        have HI := Lib.hid hid
        clear hid
        go_wp2
        go_ret
        exact ⟨by rw [HI.out]; rfl, rfl⟩

end Go.Proofs.Ytpdghmecodlhhaa.P6
