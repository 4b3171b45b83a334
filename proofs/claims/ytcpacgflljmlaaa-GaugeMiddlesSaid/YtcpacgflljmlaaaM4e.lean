/-
  Layer 4's plain mathematics: the one order of a list's places; the middle one.
-/
import Derived.Test.YtcpacgflljmlaaaM4b
import Derived.Test.YtcpacgflljmlaaaM4d
import Derived.Shelf.SlSortCmp.Insertion
namespace Go.Proofs.Ytcpacgflljmlaaa
open Go.Sort
set_option linter.unusedVariables false

def kk (l : List Nat) (i : Nat) : Int := key (l.getD i 0)
/-- Place i may stand ahead of place k. -/
def leP (l : List Nat) (i k : Nat) : Prop := kk l i < kk l k ∨ (kk l i = kk l k ∧ i ≤ k)
/-- The places of all floats, in the floats' order. -/
def IsOrd (l o : List Nat) : Prop := o.Perm (List.range l.length) ∧ o.Pairwise (leP l)
theorem IsOrd.unique {l o o' : List Nat} (h : IsOrd l o) (h' : IsOrd l o') : o = o' :=
  List.Perm.eq_of_pairwise (fun a b _ _ h1 h2 => by unfold leP at h1 h2; omega) h.2 h'.2 (h.1.trans h'.1.symm)
theorem IsOrd.len {l o : List Nat} (h : IsOrd l o) : o.length = l.length := by have := h.1.length_eq; simpa using this
theorem IsOrd.lt {l o : List Nat} (h : IsOrd l o) {x : Nat} (hx : x ∈ o) : x < l.length := by simpa using h.1.mem_iff.1 hx

/-- The comparison of places, as the sort is told it. -/
def cfP (l : List Nat) {n : Nat} (x y : Fin n) : Int := cmpF (l.getD x.val 0) (l.getD y.val 0)
theorem ltP (l : List Nat) {n : Nat} (x y : Fin n) : ltOf (cfP l) x y = decide (kk l x.val < kk l y.val) := by
  unfold ltOf cfP
  rw [decide_eq_decide]
  exact cmpF_lt
theorem swoP (l : List Nat) {n : Nat} : SWO (ltOf (cfP l) : Fin n → Fin n → Bool) where
  irrefl x := by rw [ltP]; simp
  trans x y z h1 h2 := by rw [ltP] at *; simp at *; omega
  ntrans x y z h1 h2 := by rw [ltP] at *; simp at *; omega
theorem not_ltR (l : List Nat) {n : Nat} (x y : Fin n) (h : ltR (ltOf (cfP l)) (fun z : Fin n => z.val) y x = false) : leP l x.val y.val := by
  unfold ltR at h
  rw [ltP, ltP] at h
  unfold leP
  simp at h
  omega

theorem ord_of_sorted {l : List Nat} [Inhabited (Fin l.length)] {d' : Array (Fin l.length)} (hp : PermIn 0 l.length (Array.ofFn (fun i : Fin l.length => i)) d')
    (hs : SortedIn (ltR (ltOf (cfP l)) (fun z : Fin l.length => z.val)) 0 l.length d') : IsOrd l (d'.toList.map fun z => z.val) := by
  have hz : d'.size = l.length := by rw [hp.1]; simp
  constructor
  · have h1 := hp.2.2
    have e1 : d'.extract 0 l.length = d' := by
      have : d'.extract 0 d'.size = d' := Array.extract_size
      rwa [show d'.extract 0 d'.size = d'.extract 0 l.length by congr 1] at this
    have e2 : (Array.ofFn (fun i : Fin l.length => i)).extract 0 l.length = Array.ofFn (fun i : Fin l.length => i) := by
      have : (Array.ofFn (fun i : Fin l.length => i)).extract 0 (Array.ofFn (fun i : Fin l.length => i)).size = Array.ofFn (fun i : Fin l.length => i) := Array.extract_size
      rwa [show (Array.ofFn (fun i : Fin l.length => i)).extract 0 (Array.ofFn (fun i : Fin l.length => i)).size = (Array.ofFn (fun i : Fin l.length => i)).extract 0 l.length by congr 1; exact Array.size_ofFn] at this
    rw [e1, e2] at h1
    have h3 := h1.map (fun z : Fin l.length => z.val)
    rw [Array.toList_ofFn, List.map_ofFn] at h3
    have h4 : List.ofFn ((fun z : Fin l.length => z.val) ∘ fun i => i) = List.range l.length := by
      apply List.ext_getElem
      · simp
      · intro i h1 h2; simp
    rw [h4] at h3
    exact h3
  · rw [List.pairwise_iff_getElem]
    intro i j hi hj hij
    simp only [List.length_map, Array.length_toList] at hi hj
    have := hs i j (Nat.zero_le _) hij (by omega)
    rw [getElem!_pos d' i hi, getElem!_pos d' j hj] at this
    have := not_ltR l _ _ this
    simpa using this

/-! ### The middle one -/
def leF (a b : Nat) : Bool := decide (key a ≤ key b)
/-- The numbers of a list in their order. -/
def srt (l : List Nat) : List Nat := l.mergeSort leF
theorem srt_perm (l : List Nat) : (srt l).Perm l := List.mergeSort_perm l leF
theorem srt_len (l : List Nat) : (srt l).length = l.length := (srt_perm l).length_eq
theorem srt_sorted (l : List Nat) : (srt l).Pairwise fun a b => key a ≤ key b := by
  have := List.pairwise_mergeSort (le := leF) (fun a b c h1 h2 => by unfold leF at *; simp at *; omega) (fun a b => by unfold leF; simp; omega) l
  exact this.imp fun h => of_decide_eq_true h
theorem srt_unique {l s : List Nat} (hf : ∀ x ∈ l, x < 18446744073709551616 ∧ isnan x = false) (hp : s.Perm l) (hs : s.Pairwise fun a b => key a ≤ key b) : s = srt l :=
  List.Perm.eq_of_pairwise (le := fun a b => key a ≤ key b)
    (fun a b ha hb h1 h2 => key_inj (hf a (hp.mem_iff.1 ha)).1 (hf b ((srt_perm l).mem_iff.1 hb)).1 (hf a (hp.mem_iff.1 ha)).2 (by omega)) hs (srt_sorted l) (hp.trans (srt_perm l).symm)
/-- D4's answer. -/
def midOf (l : List Nat) : Nat := (srt l).getD ((l.length - 1) / 2) 0
theorem midOf_mem {l : List Nat} (h : l ≠ []) : midOf l ∈ l := by
  have h0 : 0 < l.length := List.length_pos_iff.2 h
  have h1 : (l.length - 1) / 2 < (srt l).length := by rw [srt_len]; omega
  unfold midOf
  rw [List.getD_eq_getElem?_getD, List.getElem?_eq_getElem h1]
  exact (srt_perm l).mem_iff.1 (List.getElem_mem h1)

/-- The document's way to the middle one: through the places. -/
theorem mid_of_ord {l o : List Nat} (hf : ∀ x ∈ l, x < 18446744073709551616 ∧ isnan x = false) (h : IsOrd l o) : o.map (fun i => l.getD i 0) = srt l := by
  refine srt_unique hf ?_ ?_
  · have h1 := h.1.map (fun i => l.getD i 0)
    have h2 : (List.range l.length).map (fun i => l.getD i 0) = l := by
      apply List.ext_getElem
      · simp
      · intro i h1 h2; simp at h1; simp [h1]
    rwa [h2] at h1
  · rw [List.pairwise_map]
    exact h.2.imp fun h => by unfold leP kk at h; omega
theorem mid_at {l o : List Nat} (hf : ∀ x ∈ l, x < 18446744073709551616 ∧ isnan x = false) (h : IsOrd l o) (h0 : 0 < l.length) (hk : (l.length - 1) / 2 < o.length) :
    l.getD (o[(l.length - 1) / 2]) 0 = midOf l := by
  unfold midOf
  rw [← mid_of_ord hf h]
  have e : (o.map (fun i => l.getD i 0)).getD ((l.length - 1) / 2) 0 = ((o.map (fun i => l.getD i 0))[(l.length - 1) / 2]?).getD 0 := List.getD_eq_getElem?_getD ..
  rw [e, List.getElem?_map, List.getElem?_eq_getElem hk]
  rfl

/-! ### Numbers as the other sort has them -/
def encF (x : UInt64) : Value := .float .f64 x.toNat
def cfF (x y : UInt64) : Int := cmpF x.toNat y.toNat
theorem ltF (x y : UInt64) : ltOf cfF x y = decide (key x.toNat < key y.toNat) := by
  unfold ltOf cfF
  rw [decide_eq_decide]
  exact cmpF_lt
theorem swoF : SWO (ltOf cfF) where
  irrefl x := by rw [ltF]; simp
  trans x y z h1 h2 := by rw [ltF] at *; simp at *; omega
  ntrans x y z h1 h2 := by rw [ltF] at *; simp at *; omega
theorem srt_of_sorted {l : List Nat} (hf : ∀ x ∈ l, x < 18446744073709551616 ∧ isnan x = false) {d' : Array UInt64} (hp : PermIn 0 l.length (l.map UInt64.ofNat).toArray d')
    (hs : SortedIn (ltOf cfF) 0 l.length d') : d'.toList.map (fun x => x.toNat) = srt l := by
  have hz : d'.size = l.length := by rw [hp.1]; simp
  refine srt_unique hf ?_ ?_
  · have h1 := hp.2.2
    have e1 : d'.extract 0 l.length = d' := by rw [← hz]; exact Array.extract_size
    have e2 : (l.map UInt64.ofNat).toArray.extract 0 l.length = (l.map UInt64.ofNat).toArray := by
      have : l.length = (l.map UInt64.ofNat).toArray.size := by simp
      rw [this]; exact Array.extract_size
    rw [e1, e2] at h1
    have h3 := h1.map (fun x : UInt64 => x.toNat)
    have h4 : (l.map UInt64.ofNat).map (fun x : UInt64 => x.toNat) = l := by
      rw [List.map_map]
      conv => rhs; rw [← List.map_id l]
      apply List.map_congr_left
      intro x hx
      exact UInt64.toNat_ofNat_of_lt' (hf x hx).1
    rw [List.toList_toArray, h4] at h3
    exact h3
  · rw [List.pairwise_map, List.pairwise_iff_getElem]
    intro i j hi hj hij
    simp only [Array.length_toList] at hi hj
    have := hs i j (Nat.zero_le _) hij (by omega)
    rw [getElem!_pos d' i hi, getElem!_pos d' j hj, ltF] at this
    simp at this
    simpa using this

end Go.Proofs.Ytcpacgflljmlaaa
