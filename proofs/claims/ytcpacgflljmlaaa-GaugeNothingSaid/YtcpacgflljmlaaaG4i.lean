/-
  Layer 4, walks: the order of a list's places, as the project has it.
-/
import Derived.Test.YtcpacgflljmlaaaM4e
import Derived.Test.YtcpacgflljmlaaaG4h
namespace Go.Proofs.Ytcpacgflljmlaaa.G4
open Go.Shelf Go.RowKit Go.PlainAid Go.Sort
set_option linter.unusedVariables false

/-- A row of the call's own, sorted in place. -/
theorem sorted_own {α : Type} [Inhabited α] (enc : α → Value) {w : World} {B : Nat} {e : TypeId} {v : Value} {n : Nat} {xs : List α} (h : w.ownsRow B e 1 v n (xs.map enc)) (hn : 0 < n) :
    ∃ g cap, v = .slice (some ⟨g, 0, none⟩) n cap ∧ B ≤ g ∧ g < w.heap.size ∧ xs.length = n ∧ Holds enc w g 0 xs.toArray ∧
      ∀ (d' : Array α) (m : Nat) (os : Array Obj), d'.size = n → (sortWorld enc w g 0 m d' os).ownsRow B e 1 v n (d'.toList.map enc) ∧ w.grownBy (sortWorld enc w g 0 m d' os) (some g) := by
  have hl : xs.length = n := by have := h.1; simp at this; exact this
  have h' := h
  rcases h with ⟨_, ⟨_, h0⟩ | ⟨g, cap, cur, rfl, hb, hh, h1, h2, h3, ht⟩⟩
  · omega
  · have hg : g < w.heap.size := (Array.getElem?_eq_some_iff.1 hh).1
    refine ⟨g, cap, rfl, hb, hg, hl, fun j hj => ?_, fun d' m os hd => ⟨⟨by simp [hd], .inr ⟨g, cap, putCells enc 0 d' cur, rfl, hb, ?_, h1, h2, by simp [putCells, h3], ?_⟩⟩, ⟨rfl, rfl, rfl, ?_, fun k hk hne => ?_⟩⟩⟩
    · have hj' : j < xs.length := by simpa using hj
      have hc := h'.cells (g := g) rfl j (enc xs[j]) (by rw [List.getElem?_map, List.getElem?_eq_getElem hj']; rfl)
      rw [add_none] at hc
      refine ⟨?_, by simp [World.frozen?, hh]⟩
      rw [hc]
      simp [hj']
    · unfold sortWorld
      rw [heap_grow_old _ _ (by simpa using hg)]
      simp [putRow, mapBlock, Sort.ahead, Array.getElem?_modify, hh, onCells]
    · apply List.ext_getElem?
      intro j
      rw [Nat.mul_one]
      by_cases hj : j < n
      · rw [List.getElem?_take_of_lt hj, Array.getElem?_toList]
        simp [putCells, hd, hj, show j < cur.size by omega]
      · rw [List.getElem?_take_eq_none (by omega), List.getElem?_eq_none (by simp; omega)]
    · unfold sortWorld; simp
    · unfold sortWorld
      rw [heap_grow_old _ _ (by simpa using hk)]
      have : g ≠ k := fun e => hne (by rw [e])
      simp [putRow, mapBlock, Sort.ahead, Array.getElem?_modify, this]

set_option maxRecDepth 100000 in
set_option maxHeartbeats 1000000 in
theorem closure_any (A : Option Addr) (n c x y bx : Nat) (l : List Nat) (W : World) (hx : x < l.length) (hy : y < l.length) (hbox : W.cell? ⟨bx, 0, none⟩ = some (.slice A n c)) (ha : Rd W A (fls l)) (hn : l.length = n) (hf : Fl l) (hle : n ≤ 1099511627776) :
    Calls Try.prog 36 #[.int .i64 x, .int .i64 y, .pointer (some ⟨bx, 0, none⟩)] W fun e w' => e = .returned (.int .i64 (cmpF (l.getD x 0) (l.getD y 0))) ∧ ∃ q, w' = W.drewN q := by
  subst hn
  obtain ⟨b, off, rfl, hbl, hcx⟩ := ha.get (k := x) (by rw [fls_len]; exact hx)
  obtain ⟨b', off', e', hbl', hcy⟩ := ha.get (k := y) (by rw [fls_len]; exact hy)
  cases e'
  rw [fls_get] at hcx hcy
  have e1 : l.getD x 0 = l[x] := by rw [List.getD_eq_getElem?_getD, List.getElem?_eq_getElem hx]; rfl
  have e2 : l.getD y 0 = l[y] := by rw [List.getD_eq_getElem?_getD, List.getElem?_eq_getElem hy]; rfl
  rw [e1, e2]
  have h1 := hf l[x] (List.getElem_mem hx)
  have h2 := hf l[y] (List.getElem_mem hy)
  generalize l[x] = p at h1 hcx ⊢
  generalize l[y] = q at h2 hcy ⊢
  have hc : ∀ m, Calls Try.prog 14 #[.float .f64 p, .float .f64 q] (W.drewN m) fun e w' => e = .returned (.int .i64 (cmpF p q)) ∧ ∃ r, w' = (W.drewN m).drewN r :=
    fun m => (cmp_any p q _ h1 h2).mono fun _ _ ⟨he, hw⟩ => ⟨he, 0, hw.symm⟩
  generalize cmpF p q = r at hc ⊢
  clear ha hf e1 e2
  go_enter Try.func36, Try.ntmps36
  go_wp2_with fail
  go_quiet (first | (go_at_call 14; refine Calls.quiet_of (hc _)))
  go_wp2_with fail
  go_ret
  exact ⟨rfl, nq, rfl⟩

/-- Places, sorted. -/
def encP {n : Nat} (z : Fin n) : Value := .int .i64 (z.val : Int)
theorem ints_range (n : Nat) : ints (List.range n) = (Array.ofFn (fun i : Fin n => i)).toList.map encP := by
  rw [Array.toList_ofFn]
  apply List.ext_getElem
  · simp [ints]
  · intro i h1 h2; simp [ints, encP]
theorem ints_val {n : Nat} (d : Array (Fin n)) : d.toList.map encP = ints (d.toList.map fun z => z.val) := by
  unfold ints; rw [List.map_map]; rfl

set_option maxRecDepth 100000 in
set_option maxHeartbeats 1000000 in
theorem sortPlaces_any (A : Option Addr) (n c bx : Nat) (v : Value) (l : List Nat) (w0 w : World) (hn0 : 0 < n) (ho : w.ownsRow w0.heap.size 3 1 v n (ints (List.range n)))
    (hbx : bx < w.heap.size) (hne : v.ownBlock ≠ some bx) (hbox : w.cell? ⟨bx, 0, none⟩ = some (.slice A n c)) (hb : Below w0.heap.size w0 w) (ha : Rd w0 A (fls l)) (hn : l.length = n) (hf : Fl l) (hle : n ≤ 1000000000) :
    Calls Try.prog 35 #[v, .func (.func 36) #[] #[.pointer (some ⟨bx, 0, none⟩)]] w fun e w' => e = .returned (.tuple #[]) ∧
      ∃ o, IsOrd l o ∧ w'.ownsRow w0.heap.size 3 1 v n (ints o) ∧ Below w0.heap.size w0 w' := by
  subst hn
  haveI : Inhabited (Fin l.length) := ⟨⟨0, hn0⟩⟩
  rw [ints_range] at ho
  obtain ⟨g, cap, rfl, hB, hg, hl, hH, hall⟩ := sorted_own (α := Fin l.length) encP ho hn0
  have hne' : bx ≠ g := fun e => hne (by rw [e]; rfl)
  have hd : (Array.ofFn (fun i : Fin l.length => i)).toList.toArray = Array.ofFn (fun i : Fin l.length => i) := by simp
  rw [hd] at hH
  have hz : (Array.ofFn (fun i : Fin l.length => i)).size = l.length := by simp
  have eg : ∀ args w, (callFunc 36 args).run Try.prog w = .ok (.enter 36 args) w := enters_of Try.func36 (by kernel_rfl) rfl
  have hBw : w0.heap.size ≤ w.heap.size := hb.size
  have hbelow : ∀ (d' : Array (Fin l.length)) (m : Nat) (os : Array Obj), d'.size = l.length → Below w0.heap.size w0 (sortWorld (encP : Fin l.length → Value) w g 0 m d' os) := fun d' m os hd => hb.grown (hall d' m os hd).2 hBw (fun q hq => by cases hq; exact hB)
  have hcmp : CmpLays1 Try.prog 36 #[.pointer (some ⟨bx, 0, none⟩)] (encP : Fin l.length → Value) (cfP l) g 0 (Array.ofFn (fun i : Fin l.length => i)).size w := by
    intro m os dk hs x y
    rw [hz] at hs
    have hbox' : (sortWorld (encP : Fin l.length → Value) w g 0 m dk os).cell? ⟨bx, 0, none⟩ = some (.slice A l.length c) := (hall dk m os hs).2.cell hbox (by simpa using fun e => hne' e)
    have hc := closure_any A l.length c x.val y.val bx l (sortWorld (encP : Fin l.length → Value) w g 0 m dk os) x.isLt y.isLt hbox' (ha.keep (hbelow dk m os hs)) rfl hf (by omega)
    refine Calls.mono (P := Try.prog) hc ?_
    rintro e w' ⟨he, q, hq⟩
    exact ⟨he, q, #[], by rw [hq, grow_empty]⟩
  have hst := stable_s (α := Fin l.length) encP (cfP l) (fun z : Fin l.length => z.val) (swoP l) 36 #[.pointer (some ⟨bx, 0, none⟩)] g 0 cap (Array.ofFn (fun i : Fin l.length => i)) w eg hcmp
    ⟨fun _ => rfl, hH, hg⟩ (fun i hi => by have := getElem!_pos (Array.ofFn (fun i : Fin l.length => i)) i hi; rw [this]; simp) (by rw [hz]; omega)
  rw [hz] at hst
  have hfin : ∀ w', (∃ d', PermIn 0 l.length (Array.ofFn (fun i : Fin l.length => i)) d' ∧ SortedIn (ltR (ltOf (cfP l)) (fun z : Fin l.length => z.val)) 0 l.length d' ∧ SW encP w g 0 d' w') →
      ∃ o, IsOrd l o ∧ w'.ownsRow w0.heap.size 3 1 (.slice (some ⟨g, 0, none⟩) l.length cap) l.length (ints o) ∧ Below w0.heap.size w0 w' := by
    rintro w' ⟨d', hp, hs, m, os, rfl⟩
    have hz' : d'.size = l.length := by rw [hp.1, hz]
    exact ⟨_, ord_of_sorted hp hs, by rw [← ints_val]; exact (hall d' m os hz').1, hbelow d' m os hz'⟩
  have HF := Lib.hid hfin
  have HST := Lib.hid hst
  clear hfin hst hall hcmp hbelow hH hd hz ha hf hb ho hbox hl hne
  go_enter Try.func35, Try.ntmps35
  go_wp2_with fail
  refine HST.out.mono ?_
  rintro e w1 ⟨rfl, h⟩
  have H := Lib.hid (HF.out w1 h)
  clear h
  go_wp2
  go_end0
  exact ⟨rfl, H.out⟩

set_option maxRecDepth 100000 in
set_option maxHeartbeats 1000000 in
/-- Nothing, sorted. -/
theorem insNone_any (p : Addr) (c g : Nat) (cb : Array Value) (w : World) :
    Calls Try.prog 53 #[.slice (some p) 0 c, .int .i64 0, .int .i64 0, .func (.func g) #[] cb] w fun e w' => e = .returned (.tuple #[]) ∧ w = w' := by
  go_enter Try.func53, Try.ntmps53
  go_wp2
  go_loop [8, 9] (fun i _ => i = .int .i64 1) (fun _ _ => 0)
  case atStart => rfl
  case round =>
    subst hrel
    go_wp2
    go_end0
    exact ⟨rfl, rfl⟩

set_option maxRecDepth 100000 in
set_option maxHeartbeats 1000000 in
theorem stableNone_any (p : Addr) (c g : Nat) (cb : Array Value) (w : World) :
    Calls Try.prog 41 #[.slice (some p) 0 c, .int .i64 0, .func (.func g) #[] cb] w fun e w' => e = .returned (.tuple #[]) ∧ w = w' := by
  go_enter Try.func41, Try.ntmps41
  go_wp2
  go_loop [7, 8] (fun i j => i = .int .i64 0 ∧ j = .int .i64 20) (fun _ _ => 0)
  case atStart => exact ⟨rfl, rfl⟩
  case round =>
    obtain ⟨rfl, rfl⟩ := hrel
    go_wp2_with fail
    refine (insNone_any p c g cb _).mono ?_
    rintro e w1 ⟨rfl, rfl⟩
    go_wp2
    go_loop [6, 7, 8, 9] (fun i _ _ _ => i = .int .i64 20) (fun _ _ _ _ => 0)
    case atStart => rfl
    case round =>
      subst hrel
      go_wp2
      go_end0
      exact ⟨rfl, rfl⟩

set_option maxRecDepth 100000 in
set_option maxHeartbeats 1000000 in
theorem sortNone_any (p : Addr) (c g : Nat) (cb : Array Value) (w : World) :
    Calls Try.prog 35 #[.slice (some p) 0 c, .func (.func g) #[] cb] w fun e w' => e = .returned (.tuple #[]) ∧ w = w' := by
  go_enter Try.func35, Try.ntmps35
  go_wp2_with fail
  refine (stableNone_any p c g cb _).mono ?_
  rintro e w1 ⟨rfl, rfl⟩
  go_wp2
  go_end0
  exact ⟨rfl, rfl⟩

/-- What of the places is laid when k are. -/
def laidP (n k : Nat) : List Nat := List.range k ++ List.replicate (n - k) 0
theorem laidP_len {n k : Nat} (h : k ≤ n) : (laidP n k).length = n := by simp [laidP]; omega
theorem laidP_all (n : Nat) : laidP n n = List.range n := by simp [laidP]
theorem laidP_set {n k : Nat} (h : k < n) : (laidP n k).set k k = laidP n (k + 1) := by
  unfold laidP
  rw [List.set_append_right _ _ (by simp), List.range_succ, show n - k = (n - (k + 1)) + 1 by omega, List.replicate_succ]
  simp
theorem ints_set (l : List Nat) (i x : Nat) : (ints l).set i (.int .i64 (x : Int)) = ints (l.set i x) := by unfold ints; rw [List.map_set]

/-- WHAT THE LOOP OF Order KEEPS. -/
def PlRel (n g bx : Nat) (sl : Value) (w : World) (i : Value) (wr : World) : Prop :=
  ∃ k : Nat, k ≤ n ∧ i = .int .i64 (k : Int) ∧ wr.ownsRow w.heap.size 3 1 (.slice (some ⟨g, 0, none⟩) n n) n (ints (laidP n k)) ∧ wr.cell? ⟨bx, 0, none⟩ = some sl ∧ Below w.heap.size w wr
theorem PlRel.step {n g bx k : Nat} {sl : Value} {w wr : World} (hg : w.heap.size ≤ g) (hne : g ≠ bx) (hk : k < n)
    (ho : wr.ownsRow w.heap.size 3 1 (.slice (some ⟨g, 0, none⟩) n n) n (ints (laidP n k))) (hc : wr.cell? ⟨bx, 0, none⟩ = some sl) (hb : Below w.heap.size w wr) :
    PlRel n g bx sl w (.int .i64 ((k : Int) + 1)) (wr.setCell ⟨g, k, none⟩ (.int .i64 (k : Int))) := by
  refine ⟨k + 1, by omega, by go_num, ?_, ?_, hb.setCell (by exact hg) _⟩
  · have := (ho.stored k (.int .i64 (k : Int))).1
    rw [ints_set, laidP_set hk] at this
    exact this
  · rw [World.cell?_setCell_other _ _ _ _ (by intro e; cases e; exact hne rfl)]
    exact hc

set_option maxRecDepth 100000 in
set_option maxHeartbeats 1000000 in
theorem order_any (A : Option Addr) (n c : Nat) (l : List Nat) (w : World) (ha : Rd w A (fls l)) (hn : l.length = n) (hf : Fl l) (hle : n ≤ 1000000000) :
    Calls Try.prog 23 #[.slice A n c] w fun e w' => ∃ v o, e = .returned v ∧ IsOrd l o ∧ w'.ownsRow w.heap.size 3 1 v n (ints o) ∧ Below w.heap.size w w' := by
  obtain ⟨i0, hi0, hz0, hz1, hz2⟩ := info_parts info_int
  have HA := Lib.hid ha
  have HF := Lib.hid hf
  have HN := Lib.hid hn
  clear ha hf hn
  go_enter Try.func23, Try.ntmps23
  go_wp2_with (at_make; refine wpList_make_full _ rfl _ _ 37 rfl w.heap.size 3 i0 (.int .i64 0) 1 Try.underlying37 hi0 hz0 hz1 _ _ _ _ n rfl rfl (by simp) (by simp) ?c1 ?c2 ?c3 ?_)
  case c1 => rw [hz2]; omega
  case c2 => unfold maxLen; omega
  case c3 => simp
  intro w1 ho hg
  have hbox : w1.cell? ⟨w.heap.size, 0, none⟩ = some (.slice A n c) := hg.cell (by simp) (by simp)
  have hb : Below w.heap.size w w1 := ((Below.refl _ _).alloc (Nat.le_refl _) _).grown hg (by simp) (fun k h => by simp at h)
  have hsz : (w.alloc (.cells #[.slice A n c] 32)).heap.size = w.heap.size + 1 := by simp
  have H0 : PlRel n (w.heap.size + 1) w.heap.size (.slice A n c) w (.int .i64 0) w1 := by
    refine ⟨0, by omega, rfl, ?_, hbox, hb⟩
    rw [toList_madeCells_one] at ho
    rw [show ints (laidP n 0) = List.replicate n (Value.int .i64 0) by simp [ints, laidP]]
    exact ho
  clear ho hg hb
  have H1 := Lib.hid H0
  clear H0
  generalize hG : w.heap.size + 1 = g at *
  have HG := Lib.hid hG
  clear hG hsz
  go_wp2
  go_loopw [4, 10] (fun _ i wr => PlRel n g w.heap.size (.slice A n c) w i wr) (fun _ i _ => n - (intOf i).toNat)
  case atStart => exact H1.out
  case round =>
    clear H1
    obtain ⟨k, hk, rfl, ho, hc, hb⟩ := hrel
    by_cases hlt : k < n
    · have hfr := ho.frozenAt k
      obtain ⟨v0, hv0⟩ : ∃ v0, wr.cell? ⟨g, k, none⟩ = some v0 := by
        rw [ho.cellAt k (by omega)]
        exact ⟨_, List.getElem?_eq_getElem (by rw [ints_len, laidP_len (by omega)]; exact hlt)⟩
      go_wp2
      go_roundw
      case rel => exact PlRel.step (by have := HG.out; omega) (by have := HG.out; omega) hlt ho hc hb
      case measure => simp [intOf]; omega
    · obtain rfl : k = n := by omega
      rw [laidP_all] at ho
      have hbl : w.heap.size < wr.heap.size := World.block_lt_of_cell? wr _ hc
      by_cases h0 : k = 0
      · subst h0
        have HO := Lib.hid ho
        have HB := Lib.hid hb
        clear ho hb
        go_wp2_with fail
        refine (sortNone_any ⟨g, 0, none⟩ 0 36 _ _).mono ?_
        rintro e w2 ⟨rfl, rfl⟩
        go_wp2
        go_ret
        exact ⟨_, [], rfl, ⟨by rw [HN.out]; exact List.Perm.refl _, List.Pairwise.nil⟩, HO.out, HB.out⟩
      · have hcall := sortPlaces_any A k c w.heap.size (.slice (some ⟨g, 0, none⟩) k k) l w wr (by omega) ho hbl (fun e => by have h1 := HG.out; have h2 : g = w.heap.size := Option.some.inj e; omega) hc hb HA.out HN.out HF.out hle
        have HC := Lib.hid hcall
        clear hcall ho hb hbl
        go_wp2_with fail
        refine HC.out.mono ?_
        rintro e w2 ⟨rfl, o, h1, h2, h3⟩
        have H1 := Lib.hid h1
        have H2 := Lib.hid h2
        have H3 := Lib.hid h3
        clear h1 h2 h3
        go_wp2
        go_ret
        exact ⟨_, o, rfl, H1.out, H2.out, H3.out⟩

end Go.Proofs.Ytcpacgflljmlaaa.G4
