/-
  Layer 8: what the program takes of bytes is what the document takes, of groups that may be.
-/
import Derived.Test.YtphnimmhjnhajaaKW10l
namespace Go.Proofs.Ytphnimmhjnhajaa.W8
open Go.RowKit Go.PlainAid M8 V1
set_option linter.unusedVariables false

/-- A group as the program takes it. -/
def pGrpX : P Grp := pMap ofTup (pPair pStamp (pPair pNat (pPair pNats (pPair pStamp (pListM 200 pOpX)))))
/-- One of the kinds that there are, within the limits. -/
def Lim (o : Opn) : Prop := (o.kind = 0 ∨ o.kind = 1 ∨ o.kind = 2 ∨ o.kind = 3 ∨ o.kind = 4) ∧ o.dots.length ≤ 200 ∧ o.elems.length ≤ 2000
theorem lim_of {g : Grp} {k : Int} {o : Opn} {n : Nat} (h : opN g k o = some n) : Lim o := by
  unfold opN at h
  split at h
  · rename_i hk
    split at h
    · rename_i hc
      simp only [Bool.and_eq_true] at hc
      obtain ⟨b1, b2, b3, b4, b5⟩ := bare_parts hc.2
      exact ⟨.inl hk, by rw [b3 rfl]; simp, by rw [b5 rfl]; simp⟩
    · cases h
  · split at h
    · rename_i hk
      split at h
      · rename_i hc
        simp only [Bool.and_eq_true] at hc
        obtain ⟨b1, b2, b3, b4, b5⟩ := bare_parts hc.2
        exact ⟨.inr (.inl hk), by rw [b3 rfl]; simp, by rw [b5 rfl]; simp⟩
      · cases h
    · split at h
      · rename_i hk
        split at h
        · rename_i hc
          simp only [Bool.and_eq_true, decide_eq_true_eq] at hc
          obtain ⟨b1, b2, b3, b4, b5⟩ := bare_parts hc.2
          exact ⟨.inr (.inr (.inl hk)), hc.1.2.2, by rw [b5 rfl]; simp⟩
        · cases h
      · split at h
        · rename_i hk
          split at h
          · cases h
          · split at h
            · rename_i hc
              simp only [Bool.and_eq_true, decide_eq_true_eq] at hc
              obtain ⟨b1, b2, b3, b4, b5⟩ := bare_parts hc.2
              exact ⟨.inr (.inr (.inr (.inl hk))), by rw [b3 rfl]; simp, by rw [b5 rfl]; simp⟩
            · cases h
        · split at h
          · rename_i hk
            split at h
            · rename_i hc
              simp only [Bool.and_eq_true, decide_eq_true_eq] at hc
              obtain ⟨b1, b2, b3, b4, b5⟩ := bare_parts hc.2
              exact ⟨.inr (.inr (.inr (.inr hk))), by rw [b3 rfl]; simp, hc.1.2.2.2⟩
            · cases h
          · cases h
theorem ops_lim {g : Grp} : ∀ (l : List Opn) (k : Int), opsB g k l = true → ∀ o ∈ l, Lim o := by
  intro l
  induction l with
  | nil => intro _ _ o ho; cases ho
  | cons a l ih =>
    intro k h o ho
    unfold opsB at h
    cases hn : opN g k a with
    | none => rw [hn] at h; cases h
    | some n =>
      rw [hn] at h
      rcases List.mem_cons.1 ho with rfl | ho
      · exact lim_of hn
      · exact ih (k + n) h o ho
theorem check_lim {g : Grp} (h : check g = true) : g.ops.length ≤ 200 ∧ ∀ o ∈ g.ops, Lim o := by
  obtain ⟨h1, h2⟩ := check_ops h
  refine ⟨h1, fun o ho => ?_⟩
  rcases h2 with h2 | h2
  · rw [h2] at ho; cases ho
  · exact ops_lim g.ops 0 h2 o ho

/-- What p takes and what is D, q takes too. -/
def Ref {α : Type} (p q : P α) (D : α → Prop) : Prop := ∀ s a r, p s = some (a, r) → D a → q s = some (a, r)
theorem Ref.refl {α : Type} (p : P α) (D : α → Prop) : Ref p p D := fun _ _ _ h _ => h
theorem Ref.pair {α β : Type} {p p' : P α} {q q' : P β} {D : α → Prop} {E : β → Prop} (h : Ref p p' D) (k : Ref q q' E) : Ref (pPair p q) (pPair p' q') (fun x => D x.1 ∧ E x.2) := by
  rintro s ⟨a, b⟩ r hs ⟨h1, h2⟩
  unfold pPair at hs ⊢
  obtain ⟨a', t, h3, h4⟩ := pBind_inv hs
  obtain ⟨b', h5, h6⟩ := pMap_inv h4
  injection h6 with h6 h7
  subst h6 h7
  rw [pBind_some (h _ _ _ h3 h1), pMap_some (k _ _ _ h5 h2)]
theorem Ref.many {α : Type} {p q : P α} {D : α → Prop} (h : Ref p q D) : ∀ n, Ref (pMany p n) (pMany q n) (fun l => ∀ a ∈ l, D a) := by
  intro n
  induction n with
  | zero => intro s l r hs _; exact hs
  | succ n ih =>
    intro s l r hs hl
    unfold pMany at hs ⊢
    obtain ⟨a, t, h3, h4⟩ := pBind_inv hs
    obtain ⟨l', h5, rfl⟩ := pMap_inv h4
    rw [pBind_some (h _ _ _ h3 (hl a (by simp))), pMap_some (ih _ _ _ h5 (fun x hx => hl x (by simp [hx])))]
theorem Ref.listM {α : Type} {p q : P α} {D : α → Prop} (h : Ref p q D) (most : Nat) : Ref (pList p) (pListM most q) (fun l => l.length ≤ most ∧ ∀ a ∈ l, D a) := by
  rintro s l r hs ⟨h1, h2⟩
  unfold pList at hs
  unfold pListM
  obtain ⟨n, t, h3, h4⟩ := pBind_inv hs
  have h5 := pMany_len _ _ _ _ h4
  have h6 := (cNat.again _ _ _ h3).2
  rw [pBind_some h3]
  have hn : n ≤ (most : Int) := by unfold natD at h6; omega
  simp only [hn, if_true]
  exact h.many _ _ _ _ h4 h2
theorem Ref.listU {α : Type} {p q : P α} {D : α → Prop} (h : Ref p q D) (most : Nat) : Ref (pListM most p) (pList q) (fun l => ∀ a ∈ l, D a) := by
  intro s l r hs h2
  unfold pListM at hs
  unfold pList
  obtain ⟨n, t, h3, h4⟩ := pBind_inv hs
  rw [pBind_some h3]
  split at h4
  · exact h.many _ _ _ _ h4 h2
  · cases h4
theorem op_to : Ref pOp pOpX Lim := by
  intro s o r hs hl
  unfold pOp at hs
  unfold pOpX
  obtain ⟨a, t, h3, h4⟩ := pBind_inv hs
  rw [pBind_some h3]
  unfold M8.qOp at h4
  unfold qOpX
  split at h4
  · rename_i h; rw [if_pos h]; exact h4
  · rename_i h0; rw [if_neg h0]
    split at h4
    · rename_i h; rw [if_pos h]; exact h4
    · rename_i h1; rw [if_neg h1]
      split at h4
      · rename_i h; rw [if_pos h]
        unfold qDrop at h4
        obtain ⟨l, h5, rfl⟩ := pMap_inv h4
        unfold qDropX
        rw [pMap_some ((Ref.refl pStamp (fun _ => True)).listM 200 _ _ _ h5 ⟨hl.2.1, fun _ _ => trivial⟩)]
      · rename_i h2; rw [if_neg h2]
        split at h4
        · rename_i h; rw [if_pos h]; exact h4
        · rename_i h3; rw [if_neg h3]
          split at h4
          · rename_i h; rw [if_pos h]
            unfold qErase at h4
            obtain ⟨l, h5, rfl⟩ := pMap_inv h4
            unfold qEraseX
            rw [pMap_some ((Ref.refl pId (fun _ => True)).listM 2000 _ _ _ h5 ⟨hl.2.2, fun _ _ => trivial⟩)]
          · cases h4
theorem op_from : Ref pOpX pOp Lim := by
  intro s o r hs hl
  unfold pOpX at hs
  unfold pOp
  obtain ⟨a, t, h3, h4⟩ := pBind_inv hs
  rw [pBind_some h3]
  unfold qOpX at h4
  unfold M8.qOp
  split at h4
  · rename_i h; rw [if_pos h]; exact h4
  · rename_i h0; rw [if_neg h0]
    split at h4
    · rename_i h; rw [if_pos h]; exact h4
    · rename_i h1; rw [if_neg h1]
      split at h4
      · rename_i h; rw [if_pos h]
        unfold qDropX at h4
        obtain ⟨l, h5, rfl⟩ := pMap_inv h4
        unfold qDrop
        rw [pMap_some ((Ref.refl pStamp (fun _ => True)).listU 200 _ _ _ h5 (fun _ _ => trivial))]
      · rename_i h2; rw [if_neg h2]
        split at h4
        · rename_i h; rw [if_pos h]; exact h4
        · rename_i h3; rw [if_neg h3]
          split at h4
          · rename_i h; rw [if_pos h]
            unfold qEraseX at h4
            obtain ⟨l, h5, rfl⟩ := pMap_inv h4
            unfold qErase
            rw [pMap_some ((Ref.refl pId (fun _ => True)).listU 2000 _ _ _ h5 (fun _ _ => trivial))]
          · rename_i h4'
            injection h4 with h4
            injection h4 with h4 _
            subst h4
            rcases hl.1 with e | e | e | e | e
            · exact absurd e h0
            · exact absurd e h1
            · exact absurd e h2
            · exact absurd e h3
            · exact absurd e h4'
theorem dec_to {s : Bytes} {g : Grp} (h : pGrpX s = some (g, [])) (hc : check g = true) : M8.decode s = some g := by
  obtain ⟨hl, hk⟩ := check_lim hc
  unfold pGrpX at h
  obtain ⟨x, h1, rfl⟩ := pMap_inv h
  have h2 := ((Ref.refl pStamp (fun _ => True)).pair ((Ref.refl pNat (fun _ => True)).pair ((Ref.refl pNats (fun _ => True)).pair ((Ref.refl pStamp (fun _ => True)).pair (op_from.listU 200))))) _ _ _ h1 ⟨trivial, trivial, trivial, trivial, hk⟩
  unfold M8.decode pGrp pTup
  rw [pMap_some h2]
  simp [hc]
theorem dec_from {s : Bytes} {g : Grp} (h : M8.decode s = some g) : pGrpX s = some (g, []) ∧ check g = true := by
  have hc := (decode_inv h).2.1
  obtain ⟨hl, hk⟩ := check_lim hc
  unfold M8.decode at h
  cases hp : pGrp s with
  | none => rw [hp] at h; cases h
  | some y =>
    obtain ⟨g', r⟩ := y
    rw [hp] at h
    simp only at h
    split at h
    · rename_i hx
      injection h with h
      subst h
      rw [hx.1] at hp
      unfold pGrp pTup at hp
      obtain ⟨x, h1, rfl⟩ := pMap_inv hp
      have h2 := ((Ref.refl pStamp (fun _ => True)).pair ((Ref.refl pNat (fun _ => True)).pair ((Ref.refl pNats (fun _ => True)).pair ((Ref.refl pStamp (fun _ => True)).pair (op_to.listM 200))))) _ _ _ h1 ⟨trivial, trivial, trivial, trivial, hl, hk⟩
      refine ⟨?_, hc⟩
      unfold pGrpX
      rw [pMap_some h2]
    · cases h
/-- What the reader's end tells of the document's answer. -/
theorem rp_dec {s s' : Bytes} {g : Grp} {b : Bool} (h : RP pGrpX s false g s' b) : M8.decode s = if b = false ∧ s' = [] ∧ check g = true then some g else none := by
  obtain ⟨_, h, _⟩ := h
  obtain ⟨h1, h2⟩ := h rfl
  by_cases hc : b = false ∧ s' = [] ∧ check g = true
  · rw [if_pos hc]
    cases hp : pGrpX s with
    | none => rw [h2 hp] at hc; cases hc.1
    | some y =>
      obtain ⟨g', r⟩ := y
      obtain ⟨rfl, rfl, _⟩ := h1 _ _ hp
      rw [hc.2.1] at hp
      exact dec_to hp hc.2.2
  · rw [if_neg hc]
    cases hd : M8.decode s with
    | none => rfl
    | some g' =>
      obtain ⟨h3, h4⟩ := dec_from hd
      obtain ⟨rfl, rfl, rfl⟩ := h1 _ _ h3
      exact absurd ⟨rfl, rfl, h4⟩ hc
/-- The zero group's cells. -/
def noGrp : List Value := [.int .i64 0, .int .i64 0, .int .i64 0, .slice none 0 0, .int .i64 0, .int .i64 0, .slice none 0 0]

end Go.Proofs.Ytphnimmhjnhajaa.W8

