/-
  Layer 4, walks: the middle one, as the project and as the document's answer have it; places compared.
-/
import Derived.Test.YtcpacgflljmlaaaG4j
namespace Go.Proofs.Ytcpacgflljmlaaa.G4
open Go.Shelf Go.RowKit Go.PlainAid Go.Sort
set_option linter.unusedVariables false

theorem ints_get (l : List Nat) (k : Nat) (h : k < (ints l).length) : (ints l)[k] = .int .i64 ((l[k]'(by rw [ints_len] at h; exact h) : Nat) : Int) := by simp [ints]

set_option maxRecDepth 100000 in
set_option maxHeartbeats 400000 in
theorem sameInts_any (A B : Option Addr) (n c d : Nat) (l : List Nat) (w : World) (ha : Rd w A (ints l)) (hb : Rd w B (ints l)) (hn : l.length = n) (hle : n ≤ 1000000000) :
    Calls Try.prog 22 #[.slice A n c, .slice B n d] w fun e w' => e = .returned (.bool true) ∧ Below w.heap.size w w' := by
  subst hn
  have HA := Lib.hid ha
  have HB := Lib.hid hb
  clear ha hb
  go_enter Try.func22, Try.ntmps22
  go_wp2
  go_loopw [5] (fun i wr => ∃ k : Nat, k ≤ l.length ∧ i = .int .i64 (k : Int) ∧ Below w.heap.size w wr) (fun i _ => l.length - (intOf i).toNat)
  case atStart => exact ⟨0, by omega, rfl, Below.refl _ _⟩
  case round =>
    obtain ⟨k, hk, rfl, hbw⟩ := hrel
    by_cases hlt : k < l.length
    · have h1 := HA.out.keep hbw
      have h2 := HB.out.keep hbw
      obtain ⟨b, off, rfl, hbl, hc⟩ := h1.get (k := k) (by rw [ints_len]; exact hlt)
      obtain ⟨b', off', rfl, hbl', hc'⟩ := h2.get (k := k) (by rw [ints_len]; exact hlt)
      rw [ints_get] at hc hc'
      clear h1 h2
      go_wp2
      go_quiet (fail)
      go_wp2
      go_roundw
      case rel => exact ⟨k + 1, by omega, by go_num, below_drewN hbw nq⟩
      case measure => simp [intOf]; omega
    · obtain rfl : k = l.length := by omega
      go_wp2
      go_ret
      exact ⟨rfl, hbw⟩

/-- Floats that are numbers. -/
def Nm (l : List Nat) : Prop := ∀ x ∈ l, x < 18446744073709551616 ∧ isnan x = false
theorem nums_nm {l : List Nat} (hf : Fl l) : Nm (nums l) := fun x hx => by
  have := List.mem_filter.1 hx
  exact ⟨hf x this.1, fin_nan this.2⟩
theorem fls_enc {l : List Nat} (h : Nm l) : fls l = (l.map UInt64.ofNat).map encF := by
  unfold fls
  rw [List.map_map]
  apply List.map_congr_left
  intro x hx
  show Value.float .f64 x = Value.float .f64 (UInt64.ofNat x).toNat
  rw [UInt64.toNat_ofNat_of_lt' (h x hx).1]
theorem enc_fls (d : Array UInt64) : d.toList.map encF = fls (d.toList.map fun x => x.toNat) := by
  unfold fls; rw [List.map_map]; rfl

/-- NUMBERS, SORTED. -/
theorem sortF_any (B n : Nat) (v : Value) (ns : List Nat) (w : World) (hn0 : 0 < n) (ho : w.ownsRow B 24 1 v n (fls ns)) (hn : ns.length = n) (hf : Nm ns) (hle : n ≤ 1000000000) :
    Calls Try.prog 34 #[v, .func (.func 14) #[] #[]] w fun e w' => e = .returned (.tuple #[]) ∧
      w'.ownsRow B 24 1 v n (fls (srt ns)) ∧ ∃ g, B ≤ g ∧ w.grownBy w' (some g) := by
  subst hn
  rw [fls_enc hf] at ho
  obtain ⟨g, cap, rfl, hB, hg, hl, hH, hall⟩ := sorted_own encF ho hn0
  have hz : (ns.map UInt64.ofNat).toArray.size = ns.length := by simp
  have eg : ∀ args w, (callFunc 14 args).run Try.prog w = .ok (.enter 14 args) w := enters_of Try.func14 (by kernel_rfl) rfl
  have hcmp : CmpLays1 Try.prog 14 #[] encF cfF g 0 (ns.map UInt64.ofNat).toArray.size w := by
    intro m os dk hs x y
    refine Calls.mono (P := Try.prog) (cmp_any x.toNat y.toNat (sortWorld encF w g 0 m dk os) x.toNat_lt y.toNat_lt) ?_
    rintro e w' ⟨he, rfl⟩
    exact ⟨he, 0, #[], by rw [grow_empty]; rfl⟩
  have hc := Any.slices_SortFunc Try.sortF encF (fun _ => rfl) cfF swoF 14 #[] g 0 cap (ns.map UInt64.ofNat).toArray w eg hcmp hH hg (by rw [hz]; omega)
  rw [hz] at hc
  change Calls Try.prog 34 _ _ _ at hc
  refine hc.mono ?_
  rintro e w' ⟨he, d', m, os, hp, hs, rfl⟩
  have hz' : d'.size = ns.length := by rw [hp.1, hz]
  have h1 := hall d' m os hz'
  refine ⟨he, ?_, g, hB, h1.2⟩
  have h2 := h1.1
  rw [enc_fls, srt_of_sorted hf hp hs] at h2
  exact h2

def midV (l : List Nat) : Nat := if nums l = [] then 0 else midOf (nums l)
def midE (l : List Nat) : Int := if nums l = [] then 40 else 0
theorem ret2fe {a a' : Nat} {b b' : Int} (h1 : a = a') (h2 : b = b') : Ending.returned (.tuple #[.float .f64 a, .int .i64 b]) = Ending.returned (.tuple #[.float .f64 a', .int .i64 b']) := by rw [h1, h2]

set_option maxRecDepth 100000 in
set_option maxHeartbeats 1000000 in
theorem middle_any (A : Option Addr) (n c : Nat) (l : List Nat) (w : World) (ha : Rd w A (fls l)) (hn : l.length = n) (hf : Fl l) (hle : n ≤ 1000000000) :
    Calls Try.prog 20 #[.slice A n c] w fun e w' => e = .returned (.tuple #[.float .f64 (midV l), .int .i64 (midE l)]) ∧ Below w.heap.size w w' := by
  subst hn
  have hnum := numbers_any A l.length c l w ha rfl hf hle
  have hnl := nums_len l
  have hnm := nums_nm hf
  have HM := Lib.hid hnm
  have eV : Hid (midV l = if nums l = [] then 0 else midOf (nums l)) := rfl
  have eE : Hid (midE l = if nums l = [] then 40 else 0) := rfl
  generalize midV l = mv at eV ⊢
  generalize midE l = me at eE ⊢
  generalize nums l = ns at hnum hnl HM eV eE
  obtain ⟨m, hm⟩ : ∃ m, m = ns.length := ⟨_, rfl⟩
  rw [← hm] at hnum hnl
  have HNUM := Lib.hid hnum
  have HL := Lib.hid hm
  clear ha hf hnm hnum hm
  go_enter Try.func20, Try.ntmps20
  go_wp2_with fail
  refine HNUM.out.mono ?_
  rintro e w1 ⟨v, rfl, ho, hb⟩
  by_cases h0 : m = 0
  · subst h0
    obtain ⟨A', c', rfl, _, _⟩ := Rd.of_own ho
    have hns : ns = [] := List.eq_nil_of_length_eq_zero HL.out.symm
    have h1 : mv = 0 := by rw [eV.out, if_pos hns]
    have h2 : me = 40 := by rw [eE.out, if_pos hns]
    have HB := Lib.hid hb
    clear ho hb hns
    subst h1 h2
    go_wp2
    go_ret2
    exact ⟨rfl, HB.out⟩
  · have hns : ns ≠ [] := fun e => h0 (by rw [HL.out, e]; rfl)
    have h1 : mv = midOf ns := by rw [eV.out, if_neg hns]
    have h2 : me = 0 := by rw [eE.out, if_neg hns]
    subst h2
    have hs := sortF_any w.heap.size m v ns w1 (by omega) ho HL.out.symm HM.out (by omega)
    have HS := Lib.hid hs
    obtain ⟨A', c', rfl, _, _⟩ := Rd.of_own ho
    have hm0 : ((m : Int) == 0) = false := beq_eq_false_iff_ne.2 (by omega)
    obtain ⟨k, hk⟩ : ∃ k, k = (m - 1) / 2 := ⟨_, rfl⟩
    obtain ⟨m1, hm1⟩ : ∃ q, q = m - 1 := ⟨_, rfl⟩
    have e1 : (m : Int) - 1 = (m1 : Int) := by omega
    have e2 : (m1 : Int) / 2 = (k : Int) := by omega
    have e3 : (m1 : Int).tdiv 2 = (k : Int) := by rw [Int.tdiv_eq_ediv_of_nonneg (by omega)]; exact e2
    have hkm : k < m := by omega
    have hkz : (k : Int) < (m : Int) := by omega
    have H1 := Lib.hid h1
    have HK := Lib.hid hk
    have HB := Lib.hid hb
    clear hs ho hb h1 hk hm1 hns
    go_wp2_with fail
    refine HS.out.mono ?_
    rintro e w2 ⟨rfl, ho2, g, hg, hgr⟩
    have hb2 : Below w.heap.size w w2 := HB.out.grown hgr HB.out.size (fun q hq => by cases hq; exact hg)
    obtain ⟨A2, c2, hv, hr2, hlen⟩ := Rd.of_own ho2
    cases hv
    have hl2 : (srt ns).length = m := by rw [srt_len, HL.out]
    obtain ⟨b, off, rfl, hbl, hc⟩ := hr2.get (k := k) (by rw [fls_len, hl2]; exact hkm)
    rw [fls_get] at hc
    have hmid : mv = (srt ns)[k]'(by rw [hl2]; exact hkm) := by
      rw [H1.out]
      unfold midOf
      rw [← HL.out, ← HK.out, List.getD_eq_getElem?_getD, List.getElem?_eq_getElem (by rw [hl2]; exact hkm)]
      rfl
    obtain ⟨x, hx⟩ : ∃ x, x = (srt ns)[k]'(by rw [hl2]; exact hkm) := ⟨_, rfl⟩
    rw [← hx] at hc hmid
    have HMID := Lib.hid hmid
    have HB2 := Lib.hid hb2
    clear hr2 hlen hmid ho2 hgr hb2 hx hl2
    go_wp2
    go_ret2
    exact ⟨ret2fe HMID.out.symm rfl, HB2.out⟩

end Go.Proofs.Ytcpacgflljmlaaa.G4
