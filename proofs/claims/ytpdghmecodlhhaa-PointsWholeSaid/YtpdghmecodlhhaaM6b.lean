/-
  Layer 6, plain mathematics: identifiers, rows of parts, names replaced.
-/
import Derived.Test.YtpdghmecodlhhaaM6
namespace Go.Proofs.Ytpdghmecodlhhaa.M6
open Go.RowKit
set_option linter.unusedVariables false

def letterN (c : Nat) : Bool := (65 ≤ c && c ≤ 90) || (97 ≤ c && c ≤ 122) || c == 95
def partN (c : Nat) : Bool := letterN c || (48 ≤ c && c ≤ 57)
theorem part_lt {c : Nat} (h : partN c = true) : c < 128 := by
  simp [partN, letterN] at h; omega
theorem letter_part {c : Nat} (h : letterN c = true) : partN c = true := by simp [partN, h]
/-- Is it an identifier? -/
def identB : List UInt8 → Bool
  | [] => false
  | b :: r => letterN b.toNat && r.all fun x => partN x.toNat
theorem identB_parts {l : List UInt8} (h : identB l = true) : ∀ b ∈ l, partN b.toNat = true := by
  match l with
  | [] => simp
  | b :: r =>
    simp only [identB, Bool.and_eq_true, List.all_eq_true] at h
    intro x hx
    rcases List.mem_cons.1 hx with rfl | hx
    · exact letter_part h.1
    · exact h.2 x hx
theorem identB_ne {l : List UInt8} (h : identB l = true) : l ≠ [] := by rintro rfl; cases h
/-- A text of parts, as code points. -/
def nums (l : List UInt8) : List Nat := l.map UInt8.toNat
theorem nums_len (l : List UInt8) : (nums l).length = l.length := by simp [nums]
theorem flat_parts : ∀ {cs : List Nat}, (∀ c ∈ cs, partN c = true) → flat cs = cs.map UInt8.ofNat := by
  intro cs
  induction cs with
  | nil => intro _; rfl
  | cons c cs ih =>
    intro h
    rw [flat_cons, enc1 (part_lt (h c (by simp))), ih (fun x hx => h x (by simp [hx]))]; rfl
theorem flat_nums {l : List UInt8} (h : ∀ b ∈ l, partN b.toNat = true) : flat (nums l) = l := by
  rw [flat_parts (by intro c hc; obtain ⟨b, hb, rfl⟩ := List.mem_map.1 hc; exact h b hb)]
  unfold nums
  rw [List.map_map]
  conv => rhs; rw [← List.map_id l]
  apply List.map_congr_left
  intro b _
  simp
theorem flat_row {r : List Nat} (hr : ∀ c ∈ r, partN c = true) {l : List UInt8} (hl : ∀ b ∈ l, partN b.toNat = true) : flat r = l ↔ r = nums l := by
  constructor
  · intro h
    rw [← h, flat_parts hr]
    unfold nums
    rw [List.map_map]
    conv => lhs; rw [← List.map_id r]
    apply List.map_congr_left
    intro c hc
    have := part_lt (hr c hc)
    simp
    omega
  · intro h; rw [h, flat_nums hl]
theorem nums_parts {l : List UInt8} (h : ∀ b ∈ l, partN b.toNat = true) : ∀ c ∈ nums l, partN c = true := by
  intro c hc; obtain ⟨b, hb, rfl⟩ := List.mem_map.1 hc; exact h b hb
theorem nums_inj {a b : List UInt8} (h : nums a = nums b) : a = b := by
  have e : ∀ l : List UInt8, (nums l).map UInt8.ofNat = l := fun l => by
    unfold nums
    rw [List.map_map]
    conv => rhs; rw [← List.map_id l]
    apply List.map_congr_left
    intro b _
    simp
  rw [← e a, h, e b]

/-- Rows of parts, with what stands between them. -/
def cutT : List Nat → List Nat × List (Nat × List Nat)
  | [] => ([], [])
  | c :: cs => if partN c then (c :: (cutT cs).1, (cutT cs).2) else ([], (c, (cutT cs).1) :: (cutT cs).2)
def glue (t : List Nat × List (Nat × List Nat)) : List Nat := t.1 ++ t.2.flatMap fun p => p.1 :: p.2
theorem glue_cut (cs : List Nat) : glue (cutT cs) = cs := by
  induction cs with
  | nil => rfl
  | cons c cs ih =>
    unfold cutT
    split
    · show (c :: (cutT cs).1) ++ _ = _
      rw [List.cons_append]
      exact congrArg _ ih
    · show [] ++ (c :: (cutT cs).1 ++ _) = _
      rw [List.nil_append, List.cons_append]
      exact congrArg _ ih
/-- Rows are parts, what is between them is none. -/
structure Fine (t : List Nat × List (Nat × List Nat)) : Prop where
  head : ∀ c ∈ t.1, partN c = true
  rows : ∀ p ∈ t.2, partN p.1 = false ∧ ∀ c ∈ p.2, partN c = true
theorem cut_fine (cs : List Nat) : Fine (cutT cs) := by
  induction cs with
  | nil => exact ⟨by simp [cutT], by simp [cutT]⟩
  | cons c cs ih =>
    unfold cutT
    split
    · rename_i h
      exact ⟨by simpa using ⟨h, ih.head⟩, ih.rows⟩
    · rename_i h
      refine ⟨by simp, ?_⟩
      intro p hp
      rcases List.mem_cons.1 hp with rfl | hp
      · exact ⟨by simpa using h, ih.head⟩
      · exact ih.rows p hp
theorem cut_row {r : List Nat} (hr : ∀ c ∈ r, partN c = true) (cs : List Nat) : cutT (r ++ cs) = (r ++ (cutT cs).1, (cutT cs).2) := by
  induction r with
  | nil => rfl
  | cons c r ih =>
    rw [List.cons_append]
    conv => lhs; unfold cutT
    rw [if_pos (hr c (by simp)), ih (fun x hx => hr x (by simp [hx]))]
    rfl
theorem cut_glue : ∀ (ts : List (Nat × List Nat)) (r : List Nat), Fine (r, ts) → cutT (glue (r, ts)) = (r, ts) := by
  intro ts
  induction ts with
  | nil => intro r h; show cutT (r ++ []) = _; rw [cut_row h.head]; simp [cutT]
  | cons p ts ih =>
    intro r h
    obtain ⟨h1, h2⟩ := h.rows p (by simp)
    have hf : Fine (p.2, ts) := ⟨h2, fun q hq => h.rows q (by simp [hq])⟩
    show cutT (r ++ (p.1 :: (p.2 ++ ts.flatMap fun p => p.1 :: p.2))) = _
    rw [cut_row h.head]
    conv => lhs; unfold cutT
    rw [if_neg (by rw [h1]; simp)]
    have := ih p.2 hf
    unfold glue at this
    rw [this]
    simp

/-- Where rows that are nm begin and end; the first row begins at i. -/
def spans (nm : List Nat) (i : Nat) (r : List Nat) : List (Nat × List Nat) → List (Nat × Nat)
  | [] => if r = nm then [(i, i + r.length)] else []
  | p :: ts => (if r = nm then [(i, i + r.length)] else []) ++ spans nm (i + r.length + 1) p.2 ts
/-- How many rows are nm. -/
def cnt (nm : List Nat) (t : List Nat × List (Nat × List Nat)) : Nat := (t.1 :: t.2.map Prod.snd).count nm
theorem spans_len (nm : List Nat) : ∀ (ts : List (Nat × List Nat)) (r : List Nat) (i : Nat), (spans nm i r ts).length = cnt nm (r, ts) := by
  intro ts
  induction ts with
  | nil => intro r i; unfold spans cnt; by_cases h : r = nm <;> simp [h]
  | cons p ts ih =>
    intro r i
    unfold spans
    rw [List.length_append, ih]
    unfold cnt
    rw [List.map_cons, List.count_cons (a := nm) (b := r)]
    by_cases h : r = nm <;> simp [h]
    omega
def mapT (f : List Nat → List Nat) (t : List Nat × List (Nat × List Nat)) : List Nat × List (Nat × List Nat) := (f t.1, t.2.map fun p => (p.1, f p.2))
/-- By in the place of nm. -/
def sw (nm by' r : List Nat) : List Nat := if r = nm then by' else r
theorem fine_map {t : List Nat × List (Nat × List Nat)} (h : Fine t) {nm by' : List Nat} (hb : ∀ c ∈ by', partN c = true) : Fine (mapT (sw nm by') t) := by
  have hs : ∀ r : List Nat, (∀ c ∈ r, partN c = true) → ∀ c ∈ sw nm by' r, partN c = true := by
    intro r hr c hc; unfold sw at hc; split at hc; exact hb c hc; exact hr c hc
  refine ⟨hs _ h.head, ?_⟩
  intro p hp
  obtain ⟨q, hq, rfl⟩ := List.mem_map.1 hp
  exact ⟨(h.rows q hq).1, hs _ (h.rows q hq).2⟩
/-- What Replace answers. -/
def swapped (nm by' cs : List Nat) : List Nat := glue (mapT (sw nm by') (cutT cs))
theorem cut_swapped {nm by' : List Nat} (hb : ∀ c ∈ by', partN c = true) (cs : List Nat) : cutT (swapped nm by' cs) = mapT (sw nm by') (cutT cs) :=
  cut_glue _ _ (fine_map (cut_fine cs) hb)
theorem map_id {nm : List Nat} (t : List Nat × List (Nat × List Nat)) : mapT (sw nm nm) t = t := by
  have h : ∀ r, sw nm nm r = r := by intro r; unfold sw; split <;> simp_all
  unfold mapT
  simp [h]
theorem swapped_self (nm cs : List Nat) : swapped nm nm cs = cs := by unfold swapped; rw [map_id, glue_cut]
theorem count_sw {nm by' : List Nat} (hne : nm ≠ by') : ∀ (l : List (List Nat)), (l.map (sw nm by')).count nm = 0 ∧ (l.map (sw nm by')).count by' = l.count nm + l.count by' := by
  intro l
  induction l with
  | nil => simp
  | cons r l ih =>
    rw [List.map_cons]
    simp only [List.count_cons, ih]
    unfold sw
    by_cases h : r = nm
    · have h2 : ¬ by' = nm := fun e => hne e.symm
      subst h
      simp [h2, hne]
      omega
    · simp only [h, if_false]
      by_cases h3 : r = by' <;> simp [h, h3]
      rw [h3] at h; simp [h]; omega
theorem rows_map (f : List Nat → List Nat) (t : List Nat × List (Nat × List Nat)) : ((mapT f t).1 :: (mapT f t).2.map Prod.snd) = (t.1 :: t.2.map Prod.snd).map f := by
  unfold mapT; simp
theorem cnt_map {nm by' : List Nat} (hne : nm ≠ by') (t : List Nat × List (Nat × List Nat)) : cnt nm (mapT (sw nm by') t) = 0 ∧ cnt by' (mapT (sw nm by') t) = cnt nm t + cnt by' t := by
  unfold cnt
  rw [rows_map]
  exact count_sw hne _
theorem sw_back {nm by' : List Nat} (r : List Nat) (h : r ≠ by') : sw by' nm (sw nm by' r) = r := by
  unfold sw
  by_cases h1 : r = nm
  · simp [h1]
  · simp [h1, h]
theorem map_back {nm by' : List Nat} {t : List Nat × List (Nat × List Nat)} (h : cnt by' t = 0) : mapT (sw by' nm) (mapT (sw nm by') t) = t := by
  unfold cnt at h
  rw [List.count_eq_zero] at h
  have h1 : t.1 ≠ by' := fun e => h (by simp [e])
  have h2 : ∀ p ∈ t.2, p.2 ≠ by' := fun p hp e => h (by rw [← e]; exact List.mem_cons_of_mem _ (List.mem_map_of_mem hp))
  obtain ⟨r, ts⟩ := t
  unfold mapT
  simp only [List.map_map]
  rw [sw_back r h1]
  congr 1
  conv => rhs; rw [← List.map_id ts]
  apply List.map_congr_left
  intro p hp
  show (p.1, sw by' nm (sw nm by' p.2)) = p
  rw [sw_back p.2 (h2 p hp)]

/-- What is put together of a text, its spans and what is put in their place; done says what was read. -/
def repl (cs by' : List Nat) (done : Nat) : List (Nat × Nat) → List Nat
  | [] => cs.drop done
  | p :: ps => (cs.drop done).take (p.1 - done) ++ by' ++ repl cs by' p.2 ps
/-- The spans lie one behind the other. -/
def Chain (n : Nat) : Nat → List (Nat × Nat) → Prop
  | d, [] => d ≤ n
  | d, p :: ps => d ≤ p.1 ∧ p.1 ≤ p.2 ∧ Chain n p.2 ps
theorem Chain.le {n : Nat} : ∀ {ps : List (Nat × Nat)} {d : Nat}, Chain n d ps → d ≤ n := by
  intro ps
  induction ps with
  | nil => intro d h; exact h
  | cons p ps ih => intro d h; have := ih h.2.2; have := h.1; have := h.2.1; omega
theorem Chain.weak {n : Nat} : ∀ {ps : List (Nat × Nat)} {d e : Nat}, Chain n d ps → e ≤ d → Chain n e ps := by
  intro ps
  cases ps with
  | nil => intro d e h he; exact Nat.le_trans he h
  | cons p ps => intro d e h he; exact ⟨Nat.le_trans he h.1, h.2⟩
theorem spans_chain (nm : List Nat) (n : Nat) : ∀ (ts : List (Nat × List Nat)) (r : List Nat) (i : Nat), i + (glue (r, ts)).length ≤ n → Chain n i (spans nm i r ts) := by
  intro ts
  induction ts with
  | nil =>
    intro r i h
    have h : i + (r ++ []).length ≤ n := h
    rw [List.append_nil] at h
    unfold spans
    split
    · exact ⟨Nat.le_refl _, by simp, by simpa [Chain] using h⟩
    · simp only [Chain]; omega
  | cons p ts ih =>
    intro r i h
    have h : i + (r ++ (p.1 :: (p.2 ++ ts.flatMap fun p => p.1 :: p.2))).length ≤ n := h
    have hi := ih p.2 (i + r.length + 1) (by unfold glue; simp at h ⊢; omega)
    unfold spans
    split
    · exact ⟨Nat.le_refl _, by simp, hi.weak (by simp)⟩
    · exact hi.weak (by omega)
theorem repl_spans (nm by' cs : List Nat) : ∀ (ts : List (Nat × List Nat)) (r : List Nat) (i d : Nat), cs.drop i = glue (r, ts) → d ≤ i →
    repl cs by' d (spans nm i r ts) = (cs.drop d).take (i - d) ++ glue (mapT (sw nm by') (r, ts)) := by
  intro ts
  induction ts with
  | nil =>
    intro r i d h hd
    have hg : glue (r, []) = r := by simp [glue]
    have hm : glue (mapT (sw nm by') (r, [])) = sw nm by' r := by simp [glue, mapT]
    rw [hg] at h
    rw [hm]
    unfold spans sw
    by_cases hr : r = nm
    · rw [if_pos hr, if_pos hr]
      simp only [repl]
      rw [← List.drop_drop, h]
      simp
    · rw [if_neg hr, if_neg hr]
      simp only [repl]
      conv => lhs; rw [← List.take_append_drop (i - d) (cs.drop d), List.drop_drop, show d + (i - d) = i by omega, h]
  | cons p ts ih =>
    intro r i d h hd
    have h0 : cs.drop i = r ++ (p.1 :: glue (p.2, ts)) := by rw [h]; simp [glue]
    have hnext : cs.drop (i + r.length + 1) = glue (p.2, ts) := by rw [show i + r.length + 1 = i + (r.length + 1) by omega, ← List.drop_drop, h0, ← List.drop_drop, List.drop_left]; rfl
    have hm : glue (mapT (sw nm by') (r, p :: ts)) = sw nm by' r ++ (p.1 :: glue (mapT (sw nm by') (p.2, ts))) := by simp [glue, mapT]
    have hd1 : cs.drop (i + r.length) = p.1 :: glue (p.2, ts) := by rw [← List.drop_drop, h0, List.drop_left]
    rw [hm]
    unfold spans
    by_cases hr : r = nm
    · rw [if_pos hr]
      simp only [List.cons_append, List.nil_append, repl]
      rw [ih p.2 _ (i + r.length) hnext (by omega), hd1, show i + r.length + 1 - (i + r.length) = 1 by omega]
      unfold sw
      rw [if_pos hr]
      simp
    · rw [if_neg hr, List.nil_append, ih p.2 _ d hnext (by omega)]
      unfold sw
      rw [if_neg hr]
      have e : (cs.drop d).take (i + r.length + 1 - d) = (cs.drop d).take (i - d) ++ (r ++ [p.1]) := by
        rw [show i + r.length + 1 - d = (i - d) + (r.length + 1) by omega, List.take_add, List.drop_drop, show d + (i - d) = i by omega, h0]
        congr 1
        rw [show r.length + 1 = (r ++ [p.1]).length by simp, show r ++ p.1 :: glue (p.2, ts) = (r ++ [p.1]) ++ glue (p.2, ts) by simp, List.take_left]
      rw [e]
      simp

/-- All the spans of a text. -/
def found (nm cs : List Nat) : List (Nat × Nat) := spans nm 0 (cutT cs).1 (cutT cs).2
theorem found_len (nm cs : List Nat) : (found nm cs).length = cnt nm (cutT cs) := spans_len nm _ _ _
theorem found_chain (nm cs : List Nat) : Chain cs.length 0 (found nm cs) := spans_chain nm _ _ _ _ (by
  rw [show ((cutT cs).1, (cutT cs).2) = cutT cs from rfl, glue_cut]; omega)
theorem found_repl (nm by' cs : List Nat) : repl cs by' 0 (found nm cs) = swapped nm by' cs := by
  unfold found
  rw [repl_spans nm by' cs _ _ 0 0 (by rw [List.drop_zero, show ((cutT cs).1, (cutT cs).2) = cutT cs from rfl, glue_cut]) (Nat.le_refl _)]
  rfl
theorem chain_len {n : Nat} : ∀ {ps : List (Nat × Nat)} {d : Nat}, (∀ p ∈ ps, p.1 < p.2) → Chain n d ps → d + ps.length ≤ n := by
  intro ps
  induction ps with
  | nil => intro d _ h; exact h
  | cons p ps ih =>
    intro d hp h
    have h1 := ih (fun q hq => hp q (by simp [hq])) h.2.2
    have h2 := hp p (by simp)
    have h3 := h.1
    simp only [List.length_cons]; omega
theorem spans_pos {nm : List Nat} (hn : nm ≠ []) : ∀ (ts : List (Nat × List Nat)) (r : List Nat) (i : Nat), ∀ p ∈ spans nm i r ts, p.1 < p.2 := by
  have hone : ∀ (r : List Nat) (i : Nat), ∀ p ∈ (if r = nm then [(i, i + r.length)] else []), p.1 < p.2 := by
    intro r i p hp
    split at hp
    · rename_i h; rw [List.mem_singleton.1 hp]; have : 0 < r.length := List.length_pos_iff.2 (by rw [h]; exact hn); simp; omega
    · simp at hp
  intro ts
  induction ts with
  | nil => intro r i; exact hone r i
  | cons q ts ih =>
    intro r i p hp
    unfold spans at hp
    rcases List.mem_append.1 hp with hp | hp
    · exact hone r i p hp
    · exact ih q.2 _ p hp
theorem found_le {nm : List Nat} (hn : nm ≠ []) (cs : List Nat) : (found nm cs).length ≤ cs.length := by
  have := chain_len (ps := found nm cs) (spans_pos hn _ _ _) (found_chain nm cs)
  omega

/-- The program's way: rows end where a code point is no part. -/
theorem spans_end {nm : List Nat} {cs : List Nat} {b i : Nat} (hb : b ≤ i) (hi : i < cs.length) (hp : ∀ c ∈ (cs.drop b).take (i - b), partN c = true) (hc : partN cs[i] = false) :
    spans nm b (cutT (cs.drop b)).1 (cutT (cs.drop b)).2 = (if (cs.drop b).take (i - b) = nm then [(b, i)] else []) ++ spans nm (i + 1) (cutT (cs.drop (i + 1))).1 (cutT (cs.drop (i + 1))).2 := by
  have e : cs.drop b = (cs.drop b).take (i - b) ++ (cs[i] :: cs.drop (i + 1)) := by
    conv => lhs; rw [← List.take_append_drop (i - b) (cs.drop b), List.drop_drop, show b + (i - b) = i by omega, List.drop_eq_getElem_cons hi]
  have hl : ((cs.drop b).take (i - b)).length = i - b := by rw [List.length_take, List.length_drop]; omega
  have hcut : cutT (cs.drop b) = ((cs.drop b).take (i - b), (cs[i], (cutT (cs.drop (i + 1))).1) :: (cutT (cs.drop (i + 1))).2) := by
    conv => lhs; rw [e]
    rw [cut_row hp]
    conv => lhs; unfold cutT
    rw [if_neg (by rw [hc]; simp)]
    simp
  rw [hcut]
  conv => lhs; unfold spans
  simp only []
  rw [hl, show b + (i - b) = i by omega]
theorem spans_last {nm : List Nat} {cs : List Nat} {b : Nat} (hb : b ≤ cs.length) (hp : ∀ c ∈ (cs.drop b).take (cs.length - b), partN c = true) :
    spans nm b (cutT (cs.drop b)).1 (cutT (cs.drop b)).2 = if (cs.drop b).take (cs.length - b) = nm then [(b, cs.length)] else [] := by
  have e : (cs.drop b).take (cs.length - b) = cs.drop b := by rw [List.take_of_length_le (by rw [List.length_drop]; omega)]
  rw [e] at hp ⊢
  have hcut : cutT (cs.drop b) = (cs.drop b, []) := by
    have := cut_row hp []
    rw [List.append_nil] at this
    rw [this]; simp [cutT]
  rw [hcut]
  unfold spans
  rw [List.length_drop, show b + (cs.length - b) = cs.length by omega]

/-- The document's way: at each place, whether a row begins there. -/
def spansD (nm : List Nat) (fresh : Bool) (i : Nat) (cs : List Nat) : List (Nat × Nat) :=
  if fresh then spans nm i (cutT cs).1 (cutT cs).2 else match (cutT cs).2 with
    | [] => []
    | p :: ts => spans nm (i + (cutT cs).1.length + 1) p.2 ts
theorem spansD_nil (nm : List Nat) (hn : nm ≠ []) (f : Bool) (i : Nat) : spansD nm f i [] = [] := by
  unfold spansD
  cases f
  · rfl
  · simp only [if_true, cutT, spans]; rw [if_neg (fun h => hn h.symm)]
theorem spansD_none {nm : List Nat} (hn : nm ≠ []) (f : Bool) (i : Nat) {c : Nat} (cs : List Nat) (hc : partN c = false) : spansD nm f i (c :: cs) = spansD nm true (i + 1) cs := by
  unfold spansD
  have hcut : cutT (c :: cs) = ([], (c, (cutT cs).1) :: (cutT cs).2) := by
    conv => lhs; unfold cutT
    rw [if_neg (by rw [hc]; simp)]
  rw [hcut]
  cases f
  · simp
  · simp only [if_true, spans]
    rw [if_neg (fun h => hn h.symm)]
    simp
theorem spansD_on {nm : List Nat} (i : Nat) {c : Nat} (cs : List Nat) (hc : partN c = true) : spansD nm false i (c :: cs) = spansD nm false (i + 1) cs := by
  unfold spansD
  have hcut : cutT (c :: cs) = (c :: (cutT cs).1, (cutT cs).2) := by
    conv => lhs; unfold cutT
    rw [if_pos hc]
  rw [hcut]
  simp only [Bool.false_eq_true, if_false, List.length_cons]
  cases h : (cutT cs).2 with
  | nil => rfl
  | cons p ts => simp only []; rw [show i + ((cutT cs).1.length + 1) + 1 = i + 1 + (cutT cs).1.length + 1 by omega]
theorem spansD_row {nm : List Nat} (i : Nat) {c : Nat} (cs : List Nat) (hc : partN c = true) :
    spansD nm true i (c :: cs) = (if (cutT (c :: cs)).1 = nm then [(i, i + (cutT (c :: cs)).1.length)] else []) ++ spansD nm false (i + 1) cs := by
  rw [← spansD_on (nm := nm) i cs hc]
  unfold spansD
  simp only [if_true, Bool.false_eq_true, if_false]
  cases h : (cutT (c :: cs)).2 with
  | nil => simp [spans]
  | cons p ts => simp [spans]
/-- A row's end. -/
theorem cut_take {cs : List Nat} {i k : Nat} (hik : i ≤ k) (hk : k ≤ cs.length) (hp : ∀ c ∈ (cs.drop i).take (k - i), partN c = true) (he : k = cs.length ∨ ∃ h : k < cs.length, partN cs[k] = false) :
    (cutT (cs.drop i)).1 = (cs.drop i).take (k - i) := by
  have e : cs.drop i = (cs.drop i).take (k - i) ++ cs.drop k := by
    conv => lhs; rw [← List.take_append_drop (k - i) (cs.drop i), List.drop_drop, show i + (k - i) = k by omega]
  conv => lhs; rw [e]
  rw [cut_row hp]
  have : (cutT (cs.drop k)).1 = [] := by
    rcases he with rfl | ⟨h, hc⟩
    · simp [cutT]
    · rw [List.drop_eq_getElem_cons h]
      unfold cutT
      rw [if_neg (by rw [hc]; simp)]
  rw [this, List.append_nil]
theorem swapped_ok {nm by' cs : List Nat} (hcs : ∀ c ∈ cs, okc c) (hb : ∀ c ∈ by', partN c = true) : ∀ c ∈ swapped nm by' cs, okc c := by
  have hpo : ∀ c, partN c = true → okc c := fun c h => by have := part_lt h; unfold okc; omega
  have hf := fine_map (nm := nm) (cut_fine cs) hb
  intro c hc
  rcases List.mem_append.1 hc with h | h
  · exact hpo c (hf.head c h)
  · obtain ⟨p, hp, hcp⟩ := List.mem_flatMap.1 h
    rcases List.mem_cons.1 hcp with rfl | hcp
    · obtain ⟨q, hq, rfl⟩ := List.mem_map.1 hp
      refine hcs _ ?_
      rw [← glue_cut cs]
      exact List.mem_append_right _ (List.mem_flatMap.2 ⟨q, hq, by simp⟩)
    · exact hpo c ((hf.rows p hp).2 c hcp)
theorem repl_len (cs by' : List Nat) : ∀ (ps : List (Nat × Nat)) (d : Nat), Chain cs.length d ps → (repl cs by' d ps).length ≤ (cs.length - d) + by'.length * ps.length := by
  intro ps
  induction ps with
  | nil => intro d h; simp [repl]
  | cons p ps ih =>
    intro d h
    have h1 := ih p.2 h.2.2
    have h2 := h.1
    have h3 := h.2.1
    have h4 := h.2.2.le
    simp only [repl, List.length_append, List.length_take, List.length_drop, List.length_cons, Nat.mul_add, Nat.mul_one] at *
    omega

end Go.Proofs.Ytpdghmecodlhhaa.M6
