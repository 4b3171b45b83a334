/-
  Layer 4: no more than half of the numbers stand ahead of the middle one, nor behind it.
-/
import Derived.Test.YtcpacgflljmlaaaG4p
namespace Go.Proofs.Ytcpacgflljmlaaa.G4
open Go.RowKit Go.PlainAid
set_option linter.unusedVariables false

def isA (m x : Nat) : Bool := decide (key x < key m)
def isB (m x : Nat) : Bool := decide (key m < key x)
def isW (m x : Nat) : Bool := decide (key x = key m)
/-- What was counted, of k. -/
def Cnt (l : List Nat) (m k n a b w : Nat) : Prop :=
  n = (nums (l.take k)).length ∧ a = (nums (l.take k)).countP (isA m) ∧ b = (nums (l.take k)).countP (isB m) ∧ w = (nums (l.take k)).countP (isW m)
theorem Cnt.first (l : List Nat) (m : Nat) : Cnt l m 0 0 0 0 0 := by simp [Cnt, nums]
theorem Cnt.le {l : List Nat} {m k n a b w : Nat} (h : Cnt l m k n a b w) : n ≤ k ∧ a ≤ k ∧ b ≤ k ∧ w ≤ k := by
  obtain ⟨rfl, rfl, rfl, rfl⟩ := h
  have h0 := nums_len_take l k
  have h1 := List.countP_le_length (p := isA m) (l := nums (l.take k))
  have h2 := List.countP_le_length (p := isB m) (l := nums (l.take k))
  have h3 := List.countP_le_length (p := isW m) (l := nums (l.take k))
  omega
theorem Cnt.skip {l : List Nat} {m k n a b w : Nat} (h : Cnt l m k n a b w) (hk : k < l.length) (hf : isfin l[k] = false) : Cnt l m (k + 1) n a b w := by
  have e : nums (l.take (k + 1)) = nums (l.take k) := by rw [nums_take l k hk, hf]; simp
  unfold Cnt
  rw [e]
  exact h
theorem Cnt.step {l : List Nat} {m k n a b w : Nat} (h : Cnt l m k n a b w) (hk : k < l.length) (hf : isfin l[k] = true) :
    Cnt l m (k + 1) (n + 1) (a + (isA m l[k]).toNat) (b + (isB m l[k]).toNat) (w + (isW m l[k]).toNat) := by
  have e : nums (l.take (k + 1)) = nums (l.take k) ++ [l[k]] := by rw [nums_take l k hk, hf]; simp
  obtain ⟨rfl, rfl, rfl, rfl⟩ := h
  unfold Cnt
  rw [e]
  simp only [List.length_append, List.countP_append, List.countP_singleton, List.length_singleton]
  refine ⟨trivial, ?_, ?_, ?_⟩
  · cases isA m l[k] <;> rfl
  · cases isB m l[k] <;> rfl
  · cases isW m l[k] <;> rfl

/-- D4's promise. -/
theorem mid_counts {ns : List Nat} (h : ns ≠ []) : 2 * ns.countP (isA (midOf ns)) < ns.length ∧ 2 * ns.countP (isB (midOf ns)) ≤ ns.length ∧ 0 < ns.countP (isW (midOf ns)) := by
  have hn : 0 < ns.length := List.length_pos_iff.2 h
  have hmem := midOf_mem h
  have hkl : (ns.length - 1) / 2 < (srt ns).length := by rw [srt_len]; omega
  have hm : midOf ns = (srt ns)[(ns.length - 1) / 2] := by
    unfold midOf
    rw [List.getD_eq_getElem?_getD, List.getElem?_eq_getElem hkl]; rfl
  have hs := List.pairwise_iff_getElem.1 (srt_sorted ns)
  have p1 := (srt_perm ns).countP_eq (isA (midOf ns))
  have p2 := (srt_perm ns).countP_eq (isB (midOf ns))
  have hlen := srt_len ns
  generalize hkk : (ns.length - 1) / 2 = k at hkl hm
  refine ⟨?_, ?_, ?_⟩
  · rw [← p1]
    have e : (srt ns).countP (isA (midOf ns)) = ((srt ns).take k).countP (isA (midOf ns)) + ((srt ns).drop k).countP (isA (midOf ns)) := by
      rw [← List.countP_append, List.take_append_drop]
    have z : ((srt ns).drop k).countP (isA (midOf ns)) = 0 := by
      rw [List.countP_eq_zero]
      intro x hx
      obtain ⟨i, hi, rfl⟩ := List.mem_iff_getElem.1 hx
      rw [List.getElem_drop]
      unfold isA
      rw [hm]
      simp only [List.length_drop] at hi
      by_cases h0 : i = 0
      · subst h0; simp
      · have := hs k (k + i) hkl (by omega) (by omega)
        simp; exact this
    have le := List.countP_le_length (p := isA (midOf ns)) (l := (srt ns).take k)
    rw [List.length_take] at le
    omega
  · rw [← p2]
    have e : (srt ns).countP (isB (midOf ns)) = ((srt ns).take (k + 1)).countP (isB (midOf ns)) + ((srt ns).drop (k + 1)).countP (isB (midOf ns)) := by
      rw [← List.countP_append, List.take_append_drop]
    have z : ((srt ns).take (k + 1)).countP (isB (midOf ns)) = 0 := by
      rw [List.countP_eq_zero]
      intro x hx
      obtain ⟨i, hi, rfl⟩ := List.mem_iff_getElem.1 hx
      rw [List.getElem_take]
      unfold isB
      rw [hm]
      simp only [List.length_take] at hi
      by_cases h0 : i = k
      · subst h0; simp
      · have := hs i k (by omega) hkl (by omega)
        simp; exact this
    have le := List.countP_le_length (p := isB (midOf ns)) (l := (srt ns).drop (k + 1))
    rw [List.length_drop] at le
    omega
  · rw [List.countP_pos_iff]
    exact ⟨midOf ns, hmem, by simp [isW]⟩

set_option maxRecDepth 100000 in
set_option maxHeartbeats 4000000 in
theorem lawMiddles (w : World) (a : Option Addr) (len cap : Nat) (zs : List Nat) (h : IsFls w a len cap zs) (hcap : cap * 8 ≤ 140737488351232) :
    Calls Try.prog 9 #[.slice a len cap] w fun e w' => e = .returned (.bool true) ∧ Below w.heap.size w w' := by
  obtain ⟨hr, hl, hf⟩ := Rd.of_fls h
  have hr : Rd w a (fls (zs.take len)) := hr
  have hf : Fl (zs.take len) := hf
  have hlc : len ≤ cap := by
    rcases h with ⟨_, rfl, _⟩ | ⟨_, _, h1, _⟩ <;> omega
  clear h
  generalize zs.take len = l at hr hl hf
  have HR := Lib.hid hr
  have HL := Lib.hid hl
  have HF := Lib.hid hf
  clear hr hl hf
  by_cases hlen : 300 < len
  · go_enter Try.func9, Try.ntmps9
    go_wp2_with fail
    refine (awake_any _).mono ?_
    rintro e w1 ⟨rfl, hb⟩
    go_wp2
    go_ret
    exact ⟨rfl, hb⟩
  · have hlz : ¬ (300 : Int) < (len : Int) := by omega
    have hm := fun (w1 : World) (hr1 : Rd w1 a (fls l)) => middle_any a len cap l w1 hr1 HL.out HF.out (by omega)
    have hmv := midV_lt HF.out
    have hz : nums l = [] → midV l = 0 ∧ midE l = 40 := fun e => by unfold midV midE; rw [if_pos e, if_pos e]; exact ⟨rfl, rfl⟩
    have hp : nums l ≠ [] → midE l = 0 ∧ 2 * (nums l).countP (isA (midV l)) < (nums l).length ∧ 2 * (nums l).countP (isB (midV l)) ≤ (nums l).length ∧ 0 < (nums l).countP (isW (midV l)) := fun e => by
      have h1 : midV l = midOf (nums l) := by unfold midV; rw [if_neg e]
      have h2 : midE l = 0 := by unfold midE; rw [if_neg e]
      rw [h1]
      exact ⟨h2, mid_counts e⟩
    generalize midV l = mv at hm hmv hz hp
    generalize midE l = me at hm hz hp
    have HMM := Lib.hid hm
    have HMV := Lib.hid hmv
    have HZ := Lib.hid hz
    have HP := Lib.hid hp
    clear hm hmv hz hp
    go_enter Try.func9, Try.ntmps9
    go_wp2_with fail
    refine (awake_any _).mono ?_
    rintro e w1 ⟨rfl, hb1⟩
    have hr1 := HR.out.keep hb1
    have HB1 := Lib.hid hb1
    clear hb1
    go_wp2_with fail
    refine (HMM.out _ hr1).mono ?_
    rintro e w2 ⟨rfl, hb2⟩
    have hb2' := HB1.out.trans (hb2.mono HB1.out.size)
    have hr2 := HR.out.keep hb2'
    clear HB1 hb2 hr1
    have HB2 := Lib.hid hb2'
    have HR2 := Lib.hid hr2
    clear hb2' hr2
    go_wp2
    go_loopw [6, 7, 8, 9, 10, 11] (fun vn va vb vw vi _ wr => ∃ k n x y z : Nat, k ≤ len ∧ vn = .int .i64 (n : Int) ∧ va = .int .i64 (x : Int) ∧ vb = .int .i64 (y : Int) ∧ vw = .int .i64 (z : Int) ∧ vi = .int .i64 (k : Int) ∧ Hid (Cnt l mv k n x y z) ∧ Below w2.heap.size w2 wr) (fun _ _ _ _ vi _ _ => len - (intOf vi).toNat)
    case atStart => exact ⟨0, 0, 0, 0, 0, by omega, rfl, rfl, rfl, rfl, rfl, Cnt.first l mv, Below.refl _ _⟩
    case round =>
      obtain ⟨k, n, x, y, z, hk, rfl, rfl, rfl, rfl, rfl, HC, hb⟩ := hrel
      obtain ⟨b1, b2, b3, b4⟩ := HC.out.le
      by_cases hlt : k < len
      · have hkl : k < l.length := by rw [HL.out]; exact hlt
        have h1 := HR2.out.keep hb
        obtain ⟨b, off, hae, hbl, hc⟩ := h1.get (k := k) (by rw [fls_len]; exact hkl)
        subst hae
        rw [fls_get] at hc
        have hfk := HF.out l[k] (List.getElem_mem hkl)
        have hskip := HC.out.skip hkl
        have hstep := HC.out.step hkl
        obtain ⟨f, hfe⟩ : ∃ f, f = l[k] := ⟨_, rfl⟩
        rw [← hfe] at hc hfk hskip hstep
        have pn := number_any f wr hfk
        clear hfe h1 hkl
        cases hfin : isfin f
        · rw [hfin] at pn
          have HS := Lib.hid (hskip hfin)
          clear hskip hstep hfin
          go_wp2_with fail
          refine pn.mono ?_
          rintro e w3 ⟨rfl, q, rfl⟩
          go_wp2
          go_roundw
          case rel => exact ⟨k + 1, n, x, y, z, by omega, rfl, rfl, rfl, rfl, by go_num, HS, below_drewN hb q⟩
          case measure => simp [intOf]; omega
        · rw [hfin] at pn
          have HS := Lib.hid (hstep hfin)
          clear hskip hstep hfin
          have pc := fun w => cmp_any f mv w hfk HMV.out
          rcases Int.lt_trichotomy (cmpF f mv) 0 with hv | hv | hv
          · have hA : isA mv f = true := decide_eq_true (cmpF_lt.1 hv)
            have hBf : isB mv f = false := decide_eq_false (by have := cmpF_lt.1 hv; omega)
            have hW : isW mv f = false := decide_eq_false (by have := cmpF_lt.1 hv; omega)
            rw [hA, hBf, hW] at HS
            clear hA hBf hW
            generalize cmpF f mv = r at pc hv
            have hr1 : r < 0 := hv
            go_wp2_with fail
            refine pn.mono ?_
            rintro e w3 ⟨rfl, q, rfl⟩
            have hbq := Lib.hid (below_drewN hb q)
            have hc' : (wr.drewN q).cell? ⟨b, off + k, none⟩ = some (.float .f64 f) := hc
            clear hb hc pn
            generalize wr.drewN q = wy at hbq hc' ⊢
            go_wp2_with fail
            refine (pc _).mono ?_
            rintro e w4 ⟨rfl, rfl⟩
            go_wp2
            go_roundw
            case rel => exact ⟨k + 1, n + 1, x + 1, y, z, by omega, by go_num, by go_num, rfl, rfl, by go_num, HS, hbq.out⟩
            case measure => simp [intOf]; omega
          · have hA : isA mv f = false := decide_eq_false (by have := cmpF_zero.1 hv; omega)
            have hBf : isB mv f = false := decide_eq_false (by have := cmpF_zero.1 hv; omega)
            have hW : isW mv f = true := decide_eq_true (cmpF_zero.1 hv)
            rw [hA, hBf, hW] at HS
            clear hA hBf hW
            generalize cmpF f mv = r at pc hv
            have hr1 : ¬ r < 0 := by omega
            have hr2 : ¬ 0 < r := by omega
            go_wp2_with fail
            refine pn.mono ?_
            rintro e w3 ⟨rfl, q, rfl⟩
            have hbq := Lib.hid (below_drewN hb q)
            have hc' : (wr.drewN q).cell? ⟨b, off + k, none⟩ = some (.float .f64 f) := hc
            clear hb hc pn
            generalize wr.drewN q = wy at hbq hc' ⊢
            go_wp2_with fail
            refine (pc _).mono ?_
            rintro e w4 ⟨rfl, rfl⟩
            go_wp2
            go_roundw
            case rel => exact ⟨k + 1, n + 1, x, y, z + 1, by omega, by go_num, rfl, rfl, by go_num, by go_num, HS, hbq.out⟩
            case measure => simp [intOf]; omega
          · have hA : isA mv f = false := decide_eq_false (by have := cmpF_gt.1 hv; omega)
            have hBf : isB mv f = true := decide_eq_true (cmpF_gt.1 hv)
            have hW : isW mv f = false := decide_eq_false (by have := cmpF_gt.1 hv; omega)
            rw [hA, hBf, hW] at HS
            clear hA hBf hW
            generalize cmpF f mv = r at pc hv
            have hr1 : ¬ r < 0 := by omega
            have hr2 : 0 < r := hv
            go_wp2_with fail
            refine pn.mono ?_
            rintro e w3 ⟨rfl, q, rfl⟩
            have hbq := Lib.hid (below_drewN hb q)
            have hc' : (wr.drewN q).cell? ⟨b, off + k, none⟩ = some (.float .f64 f) := hc
            clear hb hc pn
            generalize wr.drewN q = wy at hbq hc' ⊢
            go_wp2_with fail
            refine (pc _).mono ?_
            rintro e w4 ⟨rfl, rfl⟩
            go_wp2
            go_roundw
            case rel => exact ⟨k + 1, n + 1, x, y + 1, z, by omega, by go_num, rfl, by go_num, rfl, by go_num, HS, hbq.out⟩
            case measure => simp [intOf]; omega
      · obtain rfl : k = len := by omega
        have hcn := HC.out
        unfold Cnt at hcn
        rw [List.take_of_length_le (by rw [HL.out]; exact Nat.le_refl _)] at hcn
        obtain ⟨e1, e2, e3, e4⟩ := hcn
        have hb' := HB2.out.trans (hb.mono HB2.out.size)
        have HBB := Lib.hid hb'
        clear hb hb'
        by_cases hn : nums l = []
        · obtain ⟨rfl, rfl⟩ := HZ.out hn
          have hn0 : n = 0 := by rw [e1, hn]; rfl
          subst hn0
          clear e1 e2 e3 e4 hn b1 b2 b3 b4
          go_wp2_with fail
          refine (same_any 0 0 _).mono ?_
          rintro e w5 ⟨rfl, rfl⟩
          rw [decide_eq_true (rfl : bitsOf 0 = bitsOf 0)]
          go_wp2
          go_ret
          exact ⟨rfl, HBB.out⟩
        · obtain ⟨rfl, p1, p2, p3⟩ := HP.out hn
          rw [← e1, ← e2] at p1
          rw [← e1, ← e3] at p2
          rw [← e4] at p3
          have hn0 : ((n : Int) == 0) = false := beq_eq_false_iff_ne.2 (by omega)
          have i1 : 2 * (x : Int) < (n : Int) := by omega
          have i2 : 2 * (y : Int) ≤ (n : Int) := by omega
          have i3 : (0 : Int) < (z : Int) := by omega
          clear e1 e2 e3 e4 hn p1 p2 p3
          go_wp2
          go_ret
          exact ⟨rfl, HBB.out⟩

end Go.Proofs.Ytcpacgflljmlaaa.G4
