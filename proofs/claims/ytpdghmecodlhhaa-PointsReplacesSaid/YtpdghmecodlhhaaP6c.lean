/-
  Layer 6, walks: Split, Len, Cut.
-/
import Derived.Test.YtpdghmecodlhhaaP6b
namespace Go.Proofs.Ytpdghmecodlhhaa.P6
open Go.RowKit Go.PlainAid M6
set_option linter.unusedVariables false

/-- Code points that may stand in a text. -/
def Txt (cs : List Nat) : Prop := ∀ c ∈ cs, okc c
/-- Bytes that are no text. -/
def Bad (l : List UInt8) : Prop := ∃ cs r, Reads l cs r ∧ r ≠ []
theorem txt_or (l : List UInt8) : Bad l ∨ ∃ cs, l = flat cs ∧ Txt cs := by
  obtain ⟨cs, r, h⟩ := reads l.length l (Nat.le_refl _)
  by_cases hr : r = []
  · exact .inr ⟨cs, by rw [h.split, hr, List.append_nil], h.ok⟩
  · exact .inl ⟨cs, r, h, hr⟩
theorem Txt.take {cs : List Nat} (h : Txt cs) (k : Nat) : Txt (cs.take k) := fun c hc => h c (List.mem_of_mem_take hc)
theorem Txt.drop {cs : List Nat} (h : Txt cs) (k : Nat) : Txt (cs.drop k) := fun c hc => h c (List.mem_of_mem_drop hc)

theorem Rd.of_own3 {w : World} {B : Nat} {e : TypeId} {v : Value} {n : Nat} {xs : List Value} (h : w.ownsRow B e 1 v n xs) : ∃ A c, v = .slice A n c ∧ Rd w A xs ∧ n ≤ c ∧ c ≤ maxLen := by
  obtain ⟨A, c, hv, hr, _⟩ := Rd.of_own h
  refine ⟨A, c, hv, hr, ?_⟩
  rcases h.2 with ⟨h1, h2⟩ | ⟨g, cap, cur, h1, _, _, h3, h4, _⟩
  · rw [hv] at h1; cases h1; exact ⟨Nat.le_refl _, by unfold maxLen; omega⟩
  · rw [hv] at h1; cases h1; exact ⟨h3, h4⟩

theorem read_good {cs : List Nat} (h : Txt cs) (hz : (flat cs).length ≤ 1099511627776) (w : World) :
    Calls Try.prog 26 #[.string (bs (flat cs))] w fun e w' => ∃ A c, e = .returned (.tuple #[.slice A cs.length c, .int .i64 0]) ∧ Rd w' A (rns cs) ∧ cs.length ≤ c ∧ c ≤ maxLen ∧ Below w.heap.size w w' := by
  refine (read_any (flat cs) cs [] (reads_flat h) hz w).mono ?_
  rintro e w' ⟨⟨h1, _⟩ | ⟨_, v, he, ho⟩, hb⟩
  · exact absurd rfl h1
  · obtain ⟨A, c, rfl, hr, hc⟩ := Rd.of_own3 ho
    exact ⟨A, c, he, hr, hc.1, hc.2, hb⟩
theorem read_bad {l : List UInt8} (h : Bad l) (hz : l.length ≤ 1099511627776) (w : World) :
    Calls Try.prog 26 #[.string (bs l)] w fun e w' => e = .returned (.tuple #[.slice none 0 0, .int .i64 60]) ∧ Below w.heap.size w w' := by
  obtain ⟨cs, r, h, hr⟩ := h
  refine (read_any l cs r h hz w).mono ?_
  rintro e w' ⟨⟨_, he⟩ | ⟨h1, _⟩, hb⟩
  · exact ⟨he, hb⟩
  · exact absurd h1 hr

/-- The pieces of a text. -/
def pcs (cs : List Nat) : List Value := cs.map fun c => Value.string (bs (enc c))
theorem pcs_len (cs : List Nat) : (pcs cs).length = cs.length := by simp [pcs]
theorem pcs_get {cs : List Nat} {k : Nat} (h : k < (pcs cs).length) : (pcs cs)[k] = Value.string (bs (enc (cs[k]'(by simpa [pcs] using h)))) := by simp [pcs]

theorem runesBytes_ok : ∀ {cs : List Nat}, Txt cs → ∀ s : ByteArray, (cs.map fun (c : Nat) => (c : Int)).foldl (fun r n => r ++ Utf8.encode n) s = bs (s.data.toList ++ flat cs) := by
  intro cs
  induction cs with
  | nil => intro _ s; rw [flat_nil, List.append_nil]; rfl
  | cons c cs ih =>
    intro h s
    rw [List.map_cons, List.foldl_cons, ih (fun x hx => h x (by simp [hx])), enc_bs (h c (by simp)), flat_cons]
    congr 1
    conv => lhs; rw [← bs_of s, bs_join, bs_list]
    simp
theorem bytes_ok {cs : List Nat} (h : Txt cs) : runesBytes (cs.map fun (c : Nat) => (c : Int)) = bs (flat cs) := runesBytes_ok h _
/-- Runes in memory, as a string. -/
theorem rd_string {w : World} {A : Option Addr} {n c : Nat} {cs : List Nat} (hr : Rd w A (rns cs)) (hn : cs.length = n) (ht : Txt cs) :
    (convert 49 9 (.slice A n c)).run Try.prog w = .ok (.string (bs (flat cs))) w := by
  subst hn
  rw [← bytes_ok ht]
  have key : ∀ a : Addr, (∀ j, j < (cs.map fun (c : Nat) => (c : Int)).length → w.cell? (a.add j) = some (.int .i32 ((cs.map fun (c : Nat) => (c : Int)).getD j 0))) →
      (convert 49 9 (.slice (some a) cs.length c)).run Try.prog w = .ok (.string (runesBytes (cs.map fun (c : Nat) => (c : Int)))) w := by
    intro a h
    have := run_convert_runes (P := Try.prog) w 49 9 21 a cs.length c (cs.map fun (c : Nat) => (c : Int)) (by simp) Try.underlying49 Try.underlying21 Try.underlying9 h
    rw [List.take_of_length_le (by simp)] at this
    exact this
  cases A with
  | none =>
    rcases hr with h0 | ⟨b, off, e, _⟩
    · have : cs = [] := List.eq_nil_of_length_eq_zero (by rw [← rns_len, h0]; rfl)
      subst this
      exact run_convert_runes_nil (P := Try.prog) w 49 9 21 _ _ Try.underlying49 Try.underlying21 Try.underlying9
    · cases e
  | some a =>
    refine key a fun j hj => ?_
    rw [List.length_map] at hj
    rcases hr with h0 | ⟨b, off, e, hb, hc⟩
    · have : cs.length = 0 := by rw [← rns_len, h0]; rfl
      omega
    · cases e
      rw [add_none, hc j (by rw [rns_len]; exact hj), rns_get]
      simp [List.getD, List.getElem?_eq_getElem hj]

/-- Where a part of a slice begins. -/
def sub (A : Option Addr) (c f : Nat) : Option Addr := if c = f then A else A.map (·.add f)
theorem Rd.sub {w : World} {A : Option Addr} {xs : List Value} {c f t : Nat} (h : Rd w A xs) (hc : xs.length ≤ c) (h1 : f ≤ t) (h2 : t ≤ xs.length) : Rd w (sub A c f) ((xs.drop f).take (t - f)) := by
  by_cases h0 : t - f = 0
  · exact .inl (by rw [h0, List.take_zero])
  · rcases h with rfl | ⟨b, off, rfl, hb, hcell⟩
    · simp at h2; omega
    · unfold P6.sub
      rw [if_neg (by omega)]
      refine .inr ⟨b, off + f, by simp [add_none], hb, fun j hj => ?_⟩
      rw [List.length_take, List.length_drop] at hj
      rw [show off + f + j = off + (f + j) by omega, hcell (f + j) (by omega)]
      simp [List.getElem_drop]

def Split1 (cs : List Nat) (w : World) (e : Ending) (w' : World) : Prop := ∃ A c, e = .returned (.tuple #[.slice A cs.length c, .int .i64 0]) ∧ Rd w' A (pcs cs) ∧ cs.length ≤ c ∧ Below w.heap.size w w'

/-- WHAT THE LOOP OF Split KEEPS. -/
def SplRel (cs : List Nat) (w1 : World) (g : Nat) (i : Value) (wr : World) : Prop :=
  ∃ k : Nat, k ≤ cs.length ∧ i = .int .i64 (k : Int) ∧ wr.ownsRow g 9 1 (.slice (some ⟨g, 0, none⟩) cs.length cs.length) cs.length (pcs (cs.take k) ++ List.replicate (cs.length - k) (Value.string ⟨#[]⟩)) ∧ Below g w1 wr
theorem info_str : (Try.prog.info? 9).map (fun i => (i.zero, i.size, i.bytes)) = some (some (.string ⟨#[]⟩), 1, 16) := by kernel_rfl
theorem pcs_take (cs : List Nat) (k : Nat) (h : k < cs.length) : pcs (cs.take (k + 1)) = pcs (cs.take k) ++ [Value.string (bs (enc cs[k]))] := by
  unfold pcs; rw [List.take_succ_eq_append_getElem h, List.map_append]; rfl
theorem pcs_laid {cs : List Nat} {k : Nat} (h : k < cs.length) : (pcs (cs.take k) ++ List.replicate (cs.length - k) (Value.string ⟨#[]⟩)).set k (.string (bs (enc cs[k]))) = pcs (cs.take (k + 1)) ++ List.replicate (cs.length - (k + 1)) (Value.string ⟨#[]⟩) := by
  have hl : (pcs (cs.take k)).length = k := by rw [pcs_len, List.length_take]; omega
  rw [pcs_take cs k h, List.set_append_right _ _ (by omega), hl, Nat.sub_self, show cs.length - k = (cs.length - (k + 1)) + 1 by omega, List.replicate_succ]
  simp

set_option maxRecDepth 100000 in
set_option maxHeartbeats 1000000 in
theorem split_good {cs : List Nat} (h : Txt cs) (hz : (flat cs).length ≤ 1099511627776) (w : World) :
    Calls Try.prog 10 #[.string (bs (flat cs))] w (Split1 cs w) := by
  obtain ⟨i0, hi0, hz0, hz1, hz2⟩ := info_parts info_str
  have HT := Lib.hid h
  have HR := Lib.hid (read_good h hz)
  have hcl : cs.length ≤ 1099511627776 := Nat.le_trans flat_len_le hz
  clear h hz
  generalize bs (flat cs) = s at *
  go_enter Try.func10, Try.ntmps10
  go_wp2_with fail
  refine (HR.out _).mono ?_
  rintro e w1 ⟨A, c, rfl, hr, _, _, hb⟩
  have HRD := Lib.hid hr
  clear hr HR
  go_wp2_with (at_make; refine wpList_make_full _ rfl _ _ 23 rfl w1.heap.size 9 i0 (.string ⟨#[]⟩) 1 Try.underlying23 hi0 hz0 hz1 _ _ _ _ cs.length rfl rfl (by omega) (by omega) ?c1 ?c2 ?c3 ?_)
  case c1 => rw [hz2]; omega
  case c2 => unfold maxLen; omega
  case c3 => exact Nat.le_refl _
  intro w2 ho hg
  rw [toList_madeCells_one] at ho
  have hb2 : Below w1.heap.size w1 w2 := (Below.refl _ _).grown hg (Nat.le_refl _) (fun k h => by simp at h)
  have h0 : SplRel cs w1 w1.heap.size (.int .i64 0) w2 := ⟨0, by omega, rfl, by simpa [pcs] using ho, hb2⟩
  have H0 := Lib.hid h0
  clear ho hg h0 hb2
  have hgle : w1.heap.size ≤ w1.heap.size := Nat.le_refl _
  go_wp2
  go_loopw [22] (fun i wr => SplRel cs w1 w1.heap.size i wr) (fun i _ => cs.length - (intOf i).toNat)
  case atStart => exact H0.out
  case round =>
    clear H0
    obtain ⟨k, hk, rfl, ho, hb2⟩ := hrel
    by_cases hlt : k < cs.length
    · have hr := HRD.out.keep hb2
      obtain ⟨b, off, rfl, hbl, hc⟩ := hr.get (k := k) (by rw [rns_len]; exact hlt)
      rw [rns_get] at hc
      clear hr
      have hfr := ho.frozenAt k
      obtain ⟨v0, hv0⟩ : ∃ v0, wr.cell? ⟨w1.heap.size, k, none⟩ = some v0 := by
        rw [ho.cellAt k (by omega)]
        exact ⟨_, List.getElem?_eq_getElem (by simp [pcs_len]; omega)⟩
      have hst := (ho.stored k (.string (bs (enc cs[k])))).1
      rw [pcs_laid hlt, ← enc_bs (HT.out _ (List.getElem_mem hlt))] at hst
      have hbs := hb2.setCell (p := ⟨w1.heap.size, k, none⟩) (Nat.le_refl _) (.string (Utf8.encode (cs[k] : Int)))
      have HS := Lib.hid hst
      clear ho hst
      generalize cs[k] = ck at hc HS hbs
      go_wp2
      go_roundw
      case rel => exact ⟨k + 1, by omega, by go_num, HS.out, hbs⟩
      case measure => simp [intOf]; omega
    · obtain rfl : k = cs.length := by omega
      rw [List.take_length, Nat.sub_self, List.replicate_zero, List.append_nil] at ho
      obtain ⟨A2, c2, hv, hr2, hc2, _⟩ := Rd.of_own3 ho
      cases hv
      go_wp2
      go_ret2
      exact ⟨_, _, rfl, hr2, hc2, chain hb hb2⟩

set_option maxRecDepth 100000 in
set_option maxHeartbeats 400000 in
theorem split_bad {l : List UInt8} (h : Bad l) (hz : l.length ≤ 1099511627776) (w : World) :
    Calls Try.prog 10 #[.string (bs l)] w fun e w' => e = .returned (.tuple #[.slice none 0 0, .int .i64 60]) ∧ Below w.heap.size w w' := by
  have HR := Lib.hid (read_bad h hz)
  clear h hz
  generalize bs l = s at *
  go_enter Try.func10, Try.ntmps10
  go_wp2_with fail
  refine (HR.out _).mono ?_
  rintro e w1 ⟨rfl, hb⟩
  go_wp2
  go_ret2
  exact ⟨rfl, hb⟩

set_option maxRecDepth 100000 in
set_option maxHeartbeats 400000 in
theorem len_bad {l : List UInt8} (h : Bad l) (hz : l.length ≤ 1099511627776) (w : World) :
    Calls Try.prog 12 #[.string (bs l)] w fun e w' => e = .returned (.tuple #[.int .i64 0, .int .i64 60]) ∧ Below w.heap.size w w' := by
  have HR := Lib.hid (read_bad h hz)
  clear h hz
  generalize bs l = s at *
  go_enter Try.func12, Try.ntmps12
  go_wp2_with fail
  refine (HR.out _).mono ?_
  rintro e w1 ⟨rfl, hb⟩
  go_wp2
  go_ret2
  exact ⟨rfl, hb⟩

set_option maxRecDepth 100000 in
set_option maxHeartbeats 400000 in
theorem len_good {cs : List Nat} (h : Txt cs) (hz : (flat cs).length ≤ 1099511627776) (w : World) :
    Calls Try.prog 12 #[.string (bs (flat cs))] w fun e w' => e = .returned (.tuple #[.int .i64 (cs.length : Int), .int .i64 0]) ∧ Below w.heap.size w w' := by
  have HR := Lib.hid (read_good h hz)
  clear h hz
  generalize bs (flat cs) = s at *
  go_enter Try.func12, Try.ntmps12
  go_wp2_with fail
  refine (HR.out _).mono ?_
  rintro e w1 ⟨A, c, rfl, hr, _, _, hb⟩
  clear hr
  go_wp2
  go_ret2
  exact ⟨rfl, hb⟩

set_option maxRecDepth 100000 in
set_option maxHeartbeats 400000 in
theorem cut_bad {l : List UInt8} (h : Bad l) (hz : l.length ≤ 1099511627776) (f t : Int) (w : World) :
    Calls Try.prog 15 #[.string (bs l), .int .i64 f, .int .i64 t] w fun e w' => e = .returned (.tuple #[.string ⟨#[]⟩, .int .i64 60]) ∧ Below w.heap.size w w' := by
  have HR := Lib.hid (read_bad h hz)
  clear h hz
  generalize bs l = s at *
  go_enter Try.func15, Try.ntmps15
  go_wp2_with fail
  refine (HR.out _).mono ?_
  rintro e w1 ⟨rfl, hb⟩
  go_wp2
  go_ret2
  exact ⟨rfl, hb⟩

/-- Are these no places to cut at? -/
def OutC (cs : List Nat) (f t : Int) : Prop := f < 0 ∨ t < f ∨ (cs.length : Int) < t

set_option maxRecDepth 100000 in
set_option maxHeartbeats 400000 in
theorem cut_out {cs : List Nat} (h : Txt cs) (hz : (flat cs).length ≤ 1099511627776) {f t : Int} (ho : OutC cs f t) (w : World) :
    Calls Try.prog 15 #[.string (bs (flat cs)), .int .i64 f, .int .i64 t] w fun e w' => e = .returned (.tuple #[.string ⟨#[]⟩, .int .i64 100]) ∧ Below w.heap.size w w' := by
  have HR := Lib.hid (read_good h hz)
  clear h hz
  unfold OutC at ho
  generalize bs (flat cs) = s at *
  go_enter Try.func15, Try.ntmps15
  go_wp2_with fail
  refine (HR.out _).mono ?_
  rintro e w1 ⟨A, c, rfl, hr, _, _, hb⟩
  clear hr HR
  go_wp2
  all_goals first | (go_ret2; exact ⟨rfl, hb⟩) | (exfalso; omega)

set_option maxRecDepth 100000 in
set_option maxHeartbeats 400000 in
theorem cut_good {cs : List Nat} (h : Txt cs) (hz : (flat cs).length ≤ 1099511627776) {f t : Nat} (h1 : f ≤ t) (h2 : t ≤ cs.length) (w : World) :
    Calls Try.prog 15 #[.string (bs (flat cs)), .int .i64 (f : Int), .int .i64 (t : Int)] w fun e w' => e = .returned (.tuple #[.string (bs (flat ((cs.drop f).take (t - f)))), .int .i64 0]) ∧ Below w.heap.size w w' := by
  have HR := Lib.hid (read_good h hz)
  have HT := Lib.hid h
  clear h hz
  generalize bs (flat cs) = s at *
  go_enter Try.func15, Try.ntmps15
  go_wp2_with fail
  refine (HR.out _).mono ?_
  rintro e w1 ⟨A, c, rfl, hr, hc, hm, hb⟩
  have hsub := Rd.sub hr (by rw [rns_len]; exact hc) h1 (by rw [rns_len]; exact h2)
  rw [show ((rns cs).drop f).take (t - f) = rns ((cs.drop f).take (t - f)) by simp [rns, List.map_take, List.map_drop]] at hsub
  have hcv := rd_string (c := c - f) hsub (n := t - f) (by simp; omega) ((HT.out.drop f).take (t - f))
  clear hr HR hsub
  by_cases hcf : c = f
  · unfold P6.sub at hcv
    rw [if_pos hcf] at hcv
    subst hcf
    rw [Nat.sub_self c] at hcv
    go_wp2
    go_ret2
    exact ⟨rfl, hb⟩
  · unfold P6.sub at hcv
    rw [if_neg hcf] at hcv
    go_wp2
    go_ret2
    exact ⟨rfl, hb⟩

end Go.Proofs.Ytpdghmecodlhhaa.P6
