/-
  Layer 4: what is ordered is there once each; no more than half stand ahead of the middle one, nor behind it.
-/
import Derived.Test.YtcpacgflljmlaaaG4p
namespace Go.Proofs.Ytcpacgflljmlaaa.G4
open Go.RowKit Go.PlainAid
set_option linter.unusedVariables false

/-- How often each place was had, of k. -/
def had (o : List Nat) (n k : Nat) : List Nat := (List.range n).map fun j => if j ∈ o.take k then 1 else 0
theorem had_len (o : List Nat) (n k : Nat) : (had o n k).length = n := by simp [had]
theorem had_zero (o : List Nat) (n : Nat) : had o n 0 = List.replicate n 0 := by
  apply List.ext_getElem
  · simp [had]
  · intro i h1 h2; simp [had]
theorem had_get (o : List Nat) (n k j : Nat) (hj : j < n) : (had o n k)[j]'(by rw [had_len]; exact hj) = if j ∈ o.take k then 1 else 0 := by simp [had]
theorem had_step {l o : List Nat} (h : IsOrd l o) {k : Nat} (hk : k < o.length) : o[k] ∉ o.take k ∧ (had o l.length k).set o[k] 1 = had o l.length (k + 1) := by
  have hn : o.Nodup := h.1.nodup_iff.2 List.nodup_range
  have h1 : o[k] ∉ o.take k := by
    intro hm
    obtain ⟨i, hi, e⟩ := List.mem_iff_getElem.1 hm
    simp at hi
    rw [List.getElem_take] at e
    exact List.pairwise_iff_getElem.1 hn i k (by omega) hk (by omega) e
  refine ⟨h1, ?_⟩
  apply List.ext_getElem
  · simp [had]
  · intro j hj1 hj2
    simp only [List.length_set, had_len] at hj1
    rw [List.getElem_set, had_get _ _ _ _ hj1, had_get _ _ _ _ hj1, List.take_succ_eq_append_getElem hk]
    by_cases e : o[k] = j
    · subst e
      rw [if_pos rfl, if_pos (List.mem_append.2 (.inr (by simp)))]
    · rw [if_neg e]
      have : (j ∈ o.take k ++ [o[k]]) ↔ j ∈ o.take k := by
        simp only [List.mem_append, List.mem_singleton]
        exact ⟨fun h => h.resolve_right (fun x => e x.symm), fun h => .inl h⟩
      simp only [this]
theorem had_all {l o : List Nat} (h : IsOrd l o) : had o l.length l.length = List.replicate l.length 1 := by
  apply List.ext_getElem
  · simp [had]
  · intro j h1 h2
    rw [had_len] at h1
    rw [had_get _ _ _ _ h1, List.take_of_length_le (by rw [h.len]; exact Nat.le_refl _), if_pos (h.1.mem_iff.2 (by simpa using h1))]
    simp
theorem ord_next {l o : List Nat} (h : IsOrd l o) {i : Nat} (hi : i + 1 < o.length) : leP l o[i] o[i + 1] :=
  List.pairwise_iff_getElem.1 h.2 i (i + 1) (by omega) hi (by omega)
theorem kk_at {l : List Nat} {i : Nat} (h : i < l.length) : kk l i = key l[i] := by
  unfold kk; rw [List.getD_eq_getElem?_getD, List.getElem?_eq_getElem h]; rfl

set_option maxRecDepth 100000 in
set_option maxHeartbeats 4000000 in
theorem lawOnce (w : World) (a : Option Addr) (len cap : Nat) (zs : List Nat) (h : IsFls w a len cap zs) (hcap : cap * 8 ≤ 140737488351232) :
    Calls Try.prog 7 #[.slice a len cap] w fun e w' => e = .returned (.bool true) ∧ Below w.heap.size w w' := by
  obtain ⟨hr, hl, hf⟩ := Rd.of_fls h
  have hr : Rd w a (fls (zs.take len)) := hr
  have hf : Fl (zs.take len) := hf
  have hlc : len ≤ cap := by
    rcases h with ⟨_, rfl, _⟩ | ⟨_, _, h1, _⟩ <;> omega
  clear h
  have mixed := mixed_orders
  obtain ⟨i0, hi0, hz0, hz1, hz2⟩ := info_parts info_int
  generalize zs.take len = l at hr hl hf
  have HR := Lib.hid hr
  have HL := Lib.hid hl
  have HF := Lib.hid hf
  clear hr hl hf
  by_cases hlen : 300 < len
  · go_enter Try.func7, Try.ntmps7
    go_wp2_with fail
    refine (awake_any _).mono ?_
    rintro e w1 ⟨rfl, hb⟩
    go_wp2
    go_ret
    exact ⟨rfl, hb⟩
  · have hlz : ¬ (300 : Int) < (len : Int) := by omega
    go_enter Try.func7, Try.ntmps7
    go_wp2_with fail
    refine (awake_any _).mono ?_
    rintro e w1 ⟨rfl, hb1⟩
    have hr1 := HR.out.keep hb1
    have HB1 := Lib.hid hb1
    clear hb1
    go_wp2_with fail
    refine (order_any a len cap l _ hr1 HL.out HF.out (by omega)).mono ?_
    rintro e w2 ⟨v, o, rfl, hO, hown, hb2⟩
    have hb2' := HB1.out.trans (hb2.mono HB1.out.size)
    clear HB1 hb2 hr1
    have hr2 := HR.out.keep hb2'
    have hol : o.length = len := by rw [hO.len, HL.out]
    obtain ⟨B, c2, rfl, hrd, _⟩ := Rd.of_own hown
    have HB2 := Lib.hid hb2'
    have HO := Lib.hid hO
    have HOL := Lib.hid hol
    have HRD := Lib.hid hrd
    have HR2 := Lib.hid hr2
    clear hb2' hO hol hrd hr2 hown
    have hnn : ((len : Int) != (len : Int)) = false := by simp
    go_wp2_with (at_make; refine wpList_make_full _ rfl _ _ 37 rfl w2.heap.size 3 i0 (.int .i64 0) 1 Try.underlying37 hi0 hz0 hz1 _ _ _ _ len rfl rfl (by simp) (by simp) ?c1 ?c2 ?c3 ?_)
    case c1 => rw [hz2]; omega
    case c2 => unfold maxLen; omega
    case c3 => exact Nat.le_refl _
    intro w3 ho3 hg3
    have hb3 : Below w2.heap.size w2 w3 := (Below.refl _ _).grown hg3 (Nat.le_refl _) (fun k h => by simp at h)
    have ho3' : w3.ownsRow w2.heap.size 3 1 (.slice (some ⟨w2.heap.size, 0, none⟩) len len) len (ints (had o l.length 0)) := by
      rw [had_zero, HL.out]
      rw [toList_madeCells_one] at ho3
      rw [show ints (List.replicate len 0) = List.replicate len (Value.int .i64 0) by simp [ints]]
      exact ho3
    clear ho3 hg3
    have H0 := Lib.hid ho3'
    have HB3 := Lib.hid hb3
    clear ho3' hb3
    have hgle : w2.heap.size ≤ w2.heap.size := Nat.le_refl _
    have HG : Hid (w2.heap.size ≤ w2.heap.size) := hgle
    clear hgle
    go_wp2
    go_loopw [6] (fun i wr => ∃ k : Nat, k ≤ len ∧ i = .int .i64 (k : Int) ∧ wr.ownsRow w2.heap.size 3 1 (.slice (some ⟨w2.heap.size, 0, none⟩) len len) len (ints (had o l.length k)) ∧ Below w2.heap.size w2 wr) (fun i _ => len - (intOf i).toNat)
    case atStart => exact ⟨0, by omega, rfl, H0.out, HB3.out⟩
    case round =>
      clear H0 HB3
      obtain ⟨k, hk, rfl, ho, hb⟩ := hrel
      by_cases hlt : k < len
      · have hko : k < o.length := by rw [HOL.out]; exact hlt
        have h1 := HRD.out.keep hb
        obtain ⟨b, off, hBe, hbl, hc⟩ := h1.get (k := k) (by rw [ints_len]; exact hko)
        rw [ints_get] at hc
        have hst := had_step HO.out hko
        have hlx := HO.out.lt (List.getElem_mem hko)
        obtain ⟨x, hx⟩ : ∃ x, x = o[k] := ⟨_, rfl⟩
        rw [← hx] at hc hst hlx
        have hxl : x < len := by rw [← HL.out]; exact hlx
        have hfr := ho.frozenAt x
        have hcx := ho.cellAt x (by omega)
        have hgx : (ints (had o l.length k))[x]? = some (.int .i64 0) := by
          unfold ints
          rw [List.getElem?_map, List.getElem?_eq_getElem (by rw [had_len]; exact hlx), had_get _ _ _ _ hlx, if_neg hst.1]
          rfl
        rw [hgx] at hcx
        have hset : (wr.setCell ⟨w2.heap.size, x, none⟩ (.int .i64 1)).ownsRow w2.heap.size 3 1 (.slice (some ⟨w2.heap.size, 0, none⟩) len len) len (ints (had o l.length (k + 1))) := by
          have h2 := (ho.stored x (.int .i64 1)).1
          rw [show (ints (had o l.length k)).set x (.int .i64 1) = ints ((had o l.length k).set x 1) from ints_set _ _ 1, hst.2] at h2
          exact h2
        have hbset : Below w2.heap.size w2 (wr.setCell ⟨w2.heap.size, x, none⟩ (.int .i64 1)) := hb.setCell (by exact HG.out) _
        have HS := Lib.hid hset
        have HBS := Lib.hid hbset
        have hx0 : ¬ (x : Int) < 0 := by omega
        have hxz : (x : Int) < (len : Int) := by omega
        have hxge : ¬ (len : Int) ≤ (x : Int) := by omega
        subst hBe
        clear ho hb h1 hst hset hbset hgx hx hlx
        go_wp2
        go_roundw
        case rel => exact ⟨k + 1, by omega, by go_num, HS.out, HBS.out⟩
        case measure => simp [intOf]; omega
      · obtain rfl : k = len := by omega
        rw [show had o l.length k = List.replicate k 1 by rw [← HL.out]; exact had_all HO.out] at ho
        obtain ⟨A3, c3, hv3, hrd3, _⟩ := Rd.of_own ho
        cases hv3
        have HRD3 := Lib.hid hrd3
        have HB := Lib.hid hb
        clear ho hrd3 hb
        obtain ⟨wo, rfl⟩ : ∃ wo : World, wo = wr := ⟨_, rfl⟩
        go_wp2
        go_loopw [7, 8] (fun i _ wx => ∃ j : Nat, j ≤ k ∧ i = .int .i64 (j : Int) ∧ Below wo.heap.size wo wx) (fun i _ _ => k - (intOf i).toNat)
        case atStart => exact ⟨0, by omega, rfl, Below.refl _ _⟩
        case round =>
          obtain ⟨j, hj, rfl, hbx⟩ := hrel
          by_cases hjl : j < k
          · have h1 := HRD3.out.keep hbx
            obtain ⟨b3, off3, hAe, hbl3, hc3⟩ := h1.get (k := j) (by rw [ints_len]; simp; exact hjl)
            rw [ints_get] at hc3
            rw [List.getElem_replicate] at hc3
            cases hAe
            rw [Nat.zero_add] at hc3
            clear h1
            have hjo : j < o.length := by rw [HOL.out]; exact hjl
            by_cases hj0 : j = 0
            · subst hj0
              go_wp2
              go_roundw
              case rel => exact ⟨1, by omega, by go_num, hbx⟩
              case measure => simp [intOf]; omega
            · obtain ⟨jp, hjp⟩ : ∃ q, q + 1 = j := ⟨j - 1, by omega⟩
              have zjp : (j : Int) = (jp : Int) + 1 := by omega
              have hjpo : jp < o.length := by omega
              have hbl2 : Below w2.heap.size w2 wr := HB.out.trans (hbx.mono HB.out.size)
              have h2 := HRD.out.keep hbl2
              obtain ⟨b, off, hBe, hblo, hc1⟩ := h2.get (k := j) (by rw [ints_len]; exact hjo)
              obtain ⟨b', off', hBe', hblo', hc2⟩ := h2.get (k := jp) (by rw [ints_len]; exact hjpo)
              subst hBe
              cases hBe'
              rw [ints_get] at hc1 hc2
              have hle : leP l o[jp] o[j] := by subst hjp; exact ord_next HO.out hjo
              have hq := HO.out.lt (List.getElem_mem hjo)
              have hp := HO.out.lt (List.getElem_mem hjpo)
              obtain ⟨q, hqe⟩ : ∃ q, q = o[j] := ⟨_, rfl⟩
              obtain ⟨p, hpe⟩ : ∃ p, p = o[jp] := ⟨_, rfl⟩
              rw [← hqe] at hc1 hle hq
              rw [← hpe] at hc2 hle hp
              clear hqe hpe h2
              have h3 := HR2.out.keep hbl2
              obtain ⟨bl, offl, hae, hbll, hcp⟩ := h3.get (k := p) (by rw [fls_len]; exact hp)
              obtain ⟨bl', offl', hae', hbll', hcq⟩ := h3.get (k := q) (by rw [fls_len]; exact hq)
              subst hae
              cases hae'
              rw [fls_get] at hcp hcq
              have hfp := HF.out l[p] (List.getElem_mem hp)
              have hfq := HF.out l[q] (List.getElem_mem hq)
              unfold leP at hle
              rw [kk_at hp, kk_at hq] at hle
              have hpz : (p : Int) < (k : Int) := by rw [← HL.out]; omega
              have hqz : (q : Int) < (k : Int) := by rw [← HL.out]; omega
              obtain ⟨x, hx⟩ : ∃ x, x = l[p] := ⟨_, rfl⟩
              obtain ⟨y, hy⟩ : ∃ y, y = l[q] := ⟨_, rfl⟩
              rw [← hx] at hcp hfp hle
              rw [← hy] at hcq hfq hle
              have hc : ∀ m, Calls Try.prog 14 #[.float .f64 x, .float .f64 y] (wr.drewN m) fun e w' => e = .returned (.int .i64 (cmpF x y)) ∧ ∃ r, w' = (wr.drewN m).drewN r :=
                fun m => (cmp_any x y _ hfp hfq).mono fun _ _ ⟨he, hw⟩ => ⟨he, 0, hw.symm⟩
              have hcv : cmpF x y < 0 ∨ (cmpF x y = 0 ∧ p ≤ q) := by
                rcases hle with h | ⟨h, h'⟩
                · exact .inl (cmpF_lt.2 h)
                · exact .inr ⟨cmpF_zero.2 h, h'⟩
              have HB3' : Hid (Below wo.heap.size wo wr) := hbx
              have HJ := Lib.hid hjp
              have ei : ((jp : Int) + 1).toNat = j := by omega
              have pi : (0 : Int) ≤ (jp : Int) + 1 := by omega
              have pj : (0 : Int) ≤ (jp : Int) := by omega
              have bi : (jp : Int) + 1 < (k : Int) := by omega
              have bj : (jp : Int) < (k : Int) := by omega
              have hj0' : (0 : Int) < (jp : Int) + 1 := by omega
              clear hx hy hle h3 hbl2 hjo hjpo hq hp hbx hjp
              generalize cmpF x y = r at hc hcv
              rcases hcv with hv | ⟨hv, hpq⟩
              · have hr1 : ¬ 0 < r := by omega
                have hr2 : (r == 0) = false := beq_eq_false_iff_ne.2 (by omega)
                have hr3 : decide (r > 0) = false := decide_eq_false (by omega)
                go_wp2_with fail
                go_quiet (first | (go_at_call 14; refine Calls.quiet_of (hc _)))
                have HB4 := Lib.hid (below_drewN HB3'.out nq)
                clear hc hc1 hc2 hcp hcq hc3 HB3'
                generalize wr.drewN nq = wy at HB4 ⊢
                go_wp2_with fail
                go_quiet (fail)
                go_wp2
                go_roundw
                case rel => exact ⟨j + 1, by omega, by first | rfl | go_num | (congr 1; omega), below_drewN HB4.out nq⟩
                case measure => simp [intOf]; omega
              · subst hv
                have hpq' : ¬ (q : Int) < (p : Int) := by omega
                go_wp2_with fail
                go_quiet (first | (go_at_call 14; refine Calls.quiet_of (hc _)))
                have HB4 := Lib.hid (below_drewN HB3'.out nq)
                have d1 : (wr.drewN nq).cell? ⟨b, off + j, none⟩ = some (.int .i64 (q : Int)) := hc1
                have d2 : (wr.drewN nq).cell? ⟨b, off + jp, none⟩ = some (.int .i64 (p : Int)) := hc2
                clear hc hc1 hc2 hcp hcq hc3 HB3'
                generalize wr.drewN nq = wy at HB4 d1 d2 ⊢
                go_wp2_with fail
                go_quiet (fail)
                go_wp2
                go_roundw
                case rel => exact ⟨j + 1, by omega, by first | rfl | go_num | (congr 1; omega), below_drewN HB4.out nq⟩
                case measure => simp [intOf]; omega
          · obtain rfl : j = k := by omega
            go_wp2
            go_ret
            exact ⟨rfl, (HB2.out.trans (HB.out.mono HB2.out.size)).trans (hbx.mono (Nat.le_trans HB2.out.size HB.out.size))⟩

end Go.Proofs.Ytcpacgflljmlaaa.G4
