/-
  Layer 4, walks: the document's middle one; what any right program answers.
-/
import Derived.Test.YtcpacgflljmlaaaG4k
namespace Go.Proofs.Ytcpacgflljmlaaa.G4
open Go.Shelf Go.RowKit Go.PlainAid Go.Sort
set_option linter.unusedVariables false

set_option maxRecDepth 100000 in
set_option maxHeartbeats 2000000 in
theorem refMiddle_any (A : Option Addr) (n c : Nat) (l : List Nat) (w : World) (ha : Rd w A (fls l)) (hn : l.length = n) (hf : Fl l) (hle : n ≤ 1000000000) :
    Calls Try.prog 21 #[.slice A n c] w fun e w' => e = .returned (.tuple #[.float .f64 (midV l), .int .i64 (midE l)]) ∧ Below w.heap.size w w' := by
  subst hn
  obtain ⟨i0, hi0, hz0, hz1, hz2⟩ := info_parts info_f64
  have eV : Hid (midV l = if nums l = [] then 0 else midOf (nums l)) := rfl
  have eE : Hid (midE l = if nums l = [] then 40 else 0) := rfl
  generalize midV l = mv at eV ⊢
  generalize midE l = me at eE ⊢
  have HA := Lib.hid ha
  have HF := Lib.hid hf
  have h0 : NumRel l w (.slice none 0 0) (.int .i64 0) w := ⟨0, by omega, rfl, World.ownsRow_nil _ _ _ _, Below.refl _ _⟩
  have H0 := Lib.hid h0
  clear ha h0 hf
  go_enter Try.func21, Try.ntmps21
  go_wp2
  go_loopw [4, 5] (fun v i wr => NumRel l w v i wr) (fun _ i _ => l.length - (intOf i).toNat)
  case atStart => exact H0.out
  case round =>
    clear H0
    obtain ⟨k, hk, rfl, ho, hb⟩ := hrel
    by_cases hlt : k < l.length
    · have h1 := HA.out.keep hb
      obtain ⟨b, off, rfl, hbl, hc⟩ := h1.get (k := k) (by rw [fls_len]; exact hlt)
      rw [fls_get] at hc
      have hfk := HF.out l[k] (List.getElem_mem hlt)
      have HN := Lib.hid (nums_take l k hlt)
      have hnl := nums_len_take l k
      have hnl2 := nums_len_take l (k + 1)
      have pn := number_any l[k] wr hfk
      clear h1
      cases hfin : isfin l[k]
      · rw [hfin] at pn HN
        have HN' := Lib.hid (HN.out.trans (List.append_nil _))
        clear HN hfin
        go_wp2_with fail
        refine pn.mono ?_
        rintro e w1 ⟨rfl, q, rfl⟩
        go_wp2
        go_roundw
        case rel => exact ⟨k + 1, by omega, by go_num, by rw [HN'.out]; exact ho, below_drewN hb q⟩
        case measure => simp [intOf]; omega
      · rw [hfin] at pn HN
        have HN' : Hid (nums (l.take (k + 1)) = nums (l.take k) ++ [l[k]]) := by rw [HN.out]; rfl
        clear HN hfin
        go_wp2_with fail
        refine pn.mono ?_
        rintro e w1 ⟨rfl, q, rfl⟩
        have hb1 : Below w.heap.size w (wr.drewN q) := below_drewN hb q
        have ho1 : (wr.drewN q).ownsRow w.heap.size 24 1 _ _ _ := ho
        have hc1 : (wr.drewN q).cell? ⟨b, off + k, none⟩ = some (.float .f64 l[k]) := hc
        have hbl1 : b < (wr.drewN q).heap.size := hbl
        clear hb ho hc hbl
        generalize wr.drewN q = wy at *
        have hB : w.heap.size ≤ wy.heap.size := hb1.size
        have hc2 : ∀ o, (wy.alloc o).cell? ⟨b, off + k, none⟩ = some (.float .f64 l[k]) := fun o => by
          have := ((Below.refl wy.heap.size wy).alloc (Nat.le_refl _) o).cell (p := ⟨b, off + k, none⟩) hbl1
          rw [this]; exact hc1
        go_wp2_with (at_builtin; refine wpList_append_own _ rfl (.tmp 18) (.tmp 23) 32 rfl w.heap.size 24 i0 (.float .f64 0) 1 8 Try.underlying32 hi0 hz0 hz1 hz2 rfl (by decide) _ _ _ rfl (ho1.alloc _) ⟨wy.heap.size, 0, none⟩ 1 1 [.float .f64 l[k]] rfl rfl (cell_one_new _ _ _) ?c2 ?c3 ?c4 ?c5 ?_)
        case c2 => simp [Value.oneCell']
        case c3 => unfold maxLen; omega
        case c4 => omega
        case c5 => first | omega | (simp; omega)
        intro v1 w1 hown1 hg1 _
        go_wp2
        go_roundw
        case rel => exact ⟨k + 1, by omega, by go_num, by rw [HN'.out, fls_snoc, List.length_append]; exact hown1, (hb1.alloc hB _).grown hg1 (by simp; omega) (fun q hq => (ho1.lt q hq).1)⟩
        case measure => simp [intOf]; omega
    · obtain rfl : k = l.length := by omega
      rw [List.take_length] at ho
      have HM := Lib.hid (nums_nm HF.out)
      have hnl := nums_len l
      generalize nums l = ns at ho HM hnl eV eE
      obtain ⟨m, hm⟩ : ∃ m, m = ns.length := ⟨_, rfl⟩
      rw [← hm] at ho hnl
      have HL := Lib.hid hm
      clear hm
      obtain ⟨A', c', rfl, hr, _⟩ := Rd.of_own ho
      by_cases h0 : m = 0
      · subst h0
        have hns : ns = [] := List.eq_nil_of_length_eq_zero HL.out.symm
        have h1 : mv = 0 := by rw [eV.out, if_pos hns]
        have h2 : me = 40 := by rw [eE.out, if_pos hns]
        have HB := Lib.hid hb
        clear ho hb hns hr
        subst h1 h2
        go_wp2
        go_ret2
        exact ⟨rfl, HB.out⟩
      · have hns : ns ≠ [] := fun e => h0 (by rw [HL.out, e]; rfl)
        have h1 : mv = midOf ns := by rw [eV.out, if_neg hns]
        have h2 : me = 0 := by rw [eE.out, if_neg hns]
        subst h2
        have hord := refOrder_any A' m c' ns wr hr HL.out.symm (fun x hx => (HM.out x hx).1) (by omega)
        have HORD := Lib.hid hord
        have HR := Lib.hid hr
        have hm0 : ((m : Int) == 0) = false := beq_eq_false_iff_ne.2 (by omega)
        obtain ⟨k, hk⟩ : ∃ k, k = (m - 1) / 2 := ⟨_, rfl⟩
        obtain ⟨m1, hm1⟩ : ∃ q, q = m - 1 := ⟨_, rfl⟩
        have e1 : (m : Int) - 1 = (m1 : Int) := by omega
        have e2 : (m1 : Int) / 2 = (k : Int) := by omega
        have e3 : (m1 : Int).tdiv 2 = (k : Int) := by rw [Int.tdiv_eq_ediv_of_nonneg (by omega)]; exact e2
        have hkm : k < m := by omega
        have hkz : (k : Int) < (m : Int) := by omega
        have H1 := Lib.hid h1
        have HK := Lib.hid hk
        have HB := Lib.hid hb
        clear hord ho hb h1 hk hm1 hns hr
        go_wp2_with fail
        refine HORD.out.mono ?_
        rintro e w2 ⟨v, o, rfl, hO, ho2, hb2⟩
        have hol : o.length = m := by rw [hO.len, HL.out]
        obtain ⟨A2, c2, rfl, hr2, _⟩ := Rd.of_own ho2
        obtain ⟨b, off, rfl, hbl, hc⟩ := hr2.get (k := k) (by rw [ints_len, hol]; exact hkm)
        rw [ints_get] at hc
        have hlt2 : o[k]'(by rw [hol]; exact hkm) < ns.length := hO.lt (List.getElem_mem _)
        have hmid : ns.getD (o[k]'(by rw [hol]; exact hkm)) 0 = mv := by
          rw [H1.out]
          have := mid_at HM.out hO (by omega) (by rw [hol, ← HL.out, ← HK.out]; exact hkm)
          rw [← this]
          congr 2
          rw [HK.out, HL.out]
        obtain ⟨x, hx⟩ : ∃ x, x = o[k]'(by rw [hol]; exact hkm) := ⟨_, rfl⟩
        rw [← hx] at hc hlt2 hmid
        have hr3 := HR.out.keep hb2
        obtain ⟨b', off', hA, hbl', hc'⟩ := hr3.get (k := x) (by rw [fls_len]; exact hlt2)
        subst hA
        rw [fls_get] at hc'
        have hv : (ns[x]'hlt2) = mv := by
          rw [← hmid, List.getD_eq_getElem?_getD, List.getElem?_eq_getElem hlt2]; rfl
        rw [hv] at hc'
        have hxz : (x : Int) < (m : Int) := by have := HL.out; omega
        have HB2 := Lib.hid (HB.out.trans (hb2.mono HB.out.size))
        clear hr2 hr3 hmid hx hv hlt2 ho2 hb2 hO hol
        go_wp2
        go_ret2
        exact ⟨rfl, HB2.out⟩

end Go.Proofs.Ytcpacgflljmlaaa.G4
