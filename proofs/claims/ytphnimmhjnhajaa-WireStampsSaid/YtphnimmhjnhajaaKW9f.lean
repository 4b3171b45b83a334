/-
  Layer 8, walks of the program: what an operation has that its kind has not.
-/
import Derived.Test.YtphnimmhjnhajaaKW9e
import Derived.Test.YtphnimmhjnhajaaKW8e
namespace Go.Proofs.Ytphnimmhjnhajaa.W8
open Go.RowKit Go.PlainAid M8
set_option linter.unusedVariables false

/-- What the walk of 'more' keeps of a boxed operation of kind 1. -/
def Leftmove (w : World) (b : Nat) (x : OpR) : Prop := w.cell? ⟨b, 4, none⟩ = some (.int .i64 0) ∧ w.cell? ⟨b, 5, none⟩ = some (.int .i64 0) ∧ w.cell? ⟨b, 6, none⟩ = some (.int .i64 0) ∧ w.cell? ⟨b, 7, none⟩ = some (.string ByteArray.empty) ∧ w.cell? ⟨b, 8, none⟩ = some (.bool x.o.dir) ∧ w.cell? ⟨b, 9, none⟩ = some (.slice x.dA x.o.dots.length x.dc) ∧ w.cell? ⟨b, 10, none⟩ = some (.int .i64 x.o.after.1) ∧ w.cell? ⟨b, 11, none⟩ = some (.int .i64 x.o.after.2.1) ∧ w.cell? ⟨b, 12, none⟩ = some (.int .i64 x.o.after.2.2) ∧ w.cell? ⟨b, 13, none⟩ = some (.int .i64 x.o.elem.1) ∧ w.cell? ⟨b, 14, none⟩ = some (.int .i64 x.o.elem.2.1) ∧ w.cell? ⟨b, 15, none⟩ = some (.int .i64 x.o.elem.2.2) ∧ w.cell? ⟨b, 16, none⟩ = some (.string (bs x.o.text)) ∧ w.cell? ⟨b, 17, none⟩ = some (.slice x.eA x.o.elems.length x.ec)
set_option maxRecDepth 100000 in
set_option maxHeartbeats 4000000 in
theorem more_move (x : OpR) (w : World) (hk : x.o.kind = 1) : Calls Try.prog 60 #[.agg x.cells.toArray] w fun e w' => e = .returned (.bool (!bare x.o true false false false false)) ∧ Below w.heap.size w w' := by
  obtain ⟨hb0, ho0⟩ := op_new w x
  have hbx : (w.alloc (.cells x.cells.toArray 44)).heap[w.heap.size]? = some (.cells x.cells.toArray 44 (0, 0)) := heap_alloc_new w _
  have BB := Lib.hid hb0
  have HF : Hid (bare x.o true false false false false = (!x.o.dir && decide (x.o.dots = []) && noneI x.o.after && noneI x.o.elem && decide (x.o.text = []) && decide (x.o.elems = []))) := by
    show _ = _
    unfold bare
    simp [Bool.and_assoc]
  obtain ⟨W0, hW⟩ : ∃ W0, w.alloc (.cells x.cells.toArray 44) = W0 := ⟨_, rfl⟩
  have hsz : W0.heap.size = w.heap.size + 1 := by rw [← hW]; simp
  rw [hW] at BB hbx ho0
  have z4 := frozen_of_row W0 w.heap.size 4 _ 44 hbx
  have z5 := frozen_of_row W0 w.heap.size 5 _ 44 hbx
  have z6 := frozen_of_row W0 w.heap.size 6 _ 44 hbx
  have z7 := frozen_of_row W0 w.heap.size 7 _ 44 hbx
  obtain ⟨d0, d1, d2, d3, d4, d5, d6, d7, d8, d9, d10, d11, d12, d13, d14, d15, d16, d17⟩ := ho0
  rw [hk] at d0
  have HBX := Lib.hid hbx
  clear hb0 hbx hk d1 d2 d3
  go_enter Try.func60, Try.ntmps60
  go_upto_region 12 with fail
  go_cut [3] from 27 to 69 (fun p wx => ∃ q, p = .pointer (some ⟨q, 0, none⟩) ∧ (wx.cell? ⟨q, 0, none⟩ = some (.int .i64 0) ∧ wx.cell? ⟨q, 1, none⟩ = some (.int .i64 0) ∧ wx.cell? ⟨q, 2, none⟩ = some (.int .i64 0)) ∧ Leftmove wx w.heap.size x ∧ Hid (Below w.heap.size w wx))
  case first =>
    go_wp2
    go_meet
    case rel =>
      have h1 := heap_setCell_same W0 w.heap.size 4 _ 44 (.int .i64 0) HBX.out
      have h2 := heap_setCell_same (W0.setCell ⟨w.heap.size, 4, none⟩ (.int .i64 0)) w.heap.size 5 _ 44 (.int .i64 0) h1
      have h3 := heap_setCell_same ((W0.setCell ⟨w.heap.size, 4, none⟩ (.int .i64 0)).setCell ⟨w.heap.size, 5, none⟩ (.int .i64 0)) w.heap.size 6 _ 44 (.int .i64 0) h2
      have h4 := heap_setCell_same (((W0.setCell ⟨w.heap.size, 4, none⟩ (.int .i64 0)).setCell ⟨w.heap.size, 5, none⟩ (.int .i64 0)).setCell ⟨w.heap.size, 6, none⟩ (.int .i64 0)) w.heap.size 7 _ 44 (.string { data := #[] }) h3
      have hE : ((((W0.setCell ⟨w.heap.size, 4, none⟩ (.int .i64 0)).setCell ⟨w.heap.size, 5, none⟩ (.int .i64 0)).setCell ⟨w.heap.size, 6, none⟩ (.int .i64 0)).setCell ⟨w.heap.size, 7, none⟩ (.string { data := #[] })).heap.size = w.heap.size + 1 := by simp [hsz]
      have hfin := (Below.heap_alloc ((((W0.setCell ⟨w.heap.size, 4, none⟩ (.int .i64 0)).setCell ⟨w.heap.size, 5, none⟩ (.int .i64 0)).setCell ⟨w.heap.size, 6, none⟩ (.int .i64 0)).setCell ⟨w.heap.size, 7, none⟩ (.string { data := #[] })) (.cells #[.int .i64 0, .int .i64 0, .int .i64 0] 40) w.heap.size (by rw [hE]; omega)).trans h4
      have hnew := heap_alloc_new ((((W0.setCell ⟨w.heap.size, 4, none⟩ (.int .i64 0)).setCell ⟨w.heap.size, 5, none⟩ (.int .i64 0)).setCell ⟨w.heap.size, 6, none⟩ (.int .i64 0)).setCell ⟨w.heap.size, 7, none⟩ (.string { data := #[] })) (.cells #[.int .i64 0, .int .i64 0, .int .i64 0] 40)
      rw [hE] at hnew
      refine ⟨_, rfl, ⟨by rw [cell_of_row _ _ 0 _ _ _ hnew]; rfl, by rw [cell_of_row _ _ 1 _ _ _ hnew]; rfl, by rw [cell_of_row _ _ 2 _ _ _ hnew]; rfl⟩, ⟨by rw [cell_of_row _ _ 4 _ _ _ hfin]; rfl, by rw [cell_of_row _ _ 5 _ _ _ hfin]; rfl, by rw [cell_of_row _ _ 6 _ _ _ hfin]; rfl, by rw [cell_of_row _ _ 7 _ _ _ hfin]; rfl, by rw [cell_of_row _ _ 8 _ _ _ hfin]; rfl, by rw [cell_of_row _ _ 9 _ _ _ hfin]; rfl, by rw [cell_of_row _ _ 10 _ _ _ hfin]; rfl, by rw [cell_of_row _ _ 11 _ _ _ hfin]; rfl, by rw [cell_of_row _ _ 12 _ _ _ hfin]; rfl, by rw [cell_of_row _ _ 13 _ _ _ hfin]; rfl, by rw [cell_of_row _ _ 14 _ _ _ hfin]; rfl, by rw [cell_of_row _ _ 15 _ _ _ hfin]; rfl, by rw [cell_of_row _ _ 16 _ _ _ hfin]; rfl, by rw [cell_of_row _ _ 17 _ _ _ hfin]; rfl⟩, ?_⟩
      show Below _ _ _
      exact (((((BB.out).setCell (p := ⟨w.heap.size, 4, none⟩) (Nat.le_refl _) (.int .i64 0)).setCell (p := ⟨w.heap.size, 5, none⟩) (Nat.le_refl _) (.int .i64 0)).setCell (p := ⟨w.heap.size, 6, none⟩) (Nat.le_refl _) (.int .i64 0)).setCell (p := ⟨w.heap.size, 7, none⟩) (Nat.le_refl _) (.string { data := #[] })).alloc (by rw [hE]; omega) _
  case rest =>
    clear d0 d4 d5 d6 d7 d8 d9 d10 d11 d12 d13 d14 d15 d16 d17 z4 z5 z6 z7 BB hW hsz HBX
    obtain ⟨q, rfl, ⟨q0, q1, q2⟩, hleft, HB⟩ := hcut
    obtain ⟨d4, d5, d6, d7, d8, d9, d10, d11, d12, d13, d14, d15, d16, d17⟩ := hleft
    cases hdir : x.o.dir
    rotate_left
    · have H_dir := Lib.hid hdir
      rw [hdir] at d8
      clear hdir
      go_wp2
      go_ret
      exact ⟨by rw [HF.out]; simp [H_dir.out], HB.out⟩
    have H_dir := Lib.hid hdir
    rw [hdir] at d8
    clear hdir
    by_cases h_dots : x.o.dots = []
    rotate_left
    · have f_dots : decide ((0 : Int) < (x.o.dots.length : Int)) = true := by rw [len_pos]; simpa using h_dots
      have g_dots : 0 < x.o.dots.length := List.length_pos_iff.2 h_dots
      have H_dots := Lib.hid h_dots
      clear h_dots
      go_wp2
      go_ret
      exact ⟨by rw [HF.out]; simp [H_dir.out, H_dots.out], HB.out⟩
    have f_dots : decide ((0 : Int) < (x.o.dots.length : Int)) = false := by rw [len_pos]; simpa using h_dots
    have g_dots : ¬ 0 < x.o.dots.length := by rw [h_dots]; simp
    have H_dots := Lib.hid h_dots
    clear h_dots
    rcases none_parts x.o.after with ⟨h_after1, h_after2, h_after3, h_aftern⟩ | ⟨h_after1, h_aftern⟩ | ⟨h_after1, h_after2, h_aftern⟩ | ⟨h_after1, h_after2, h_after3, h_aftern⟩
    rotate_left
    · have H_after := Lib.hid h_aftern
      clear h_aftern
      go_wp2
      go_ret
      exact ⟨by rw [HF.out]; simp [H_dir.out, H_dots.out, H_after.out], HB.out⟩
    · have H_after := Lib.hid h_aftern
      clear h_aftern
      go_wp2
      go_ret
      exact ⟨by rw [HF.out]; simp [H_dir.out, H_dots.out, H_after.out], HB.out⟩
    · have H_after := Lib.hid h_aftern
      clear h_aftern
      go_wp2
      go_ret
      exact ⟨by rw [HF.out]; simp [H_dir.out, H_dots.out, H_after.out], HB.out⟩
    have H_after := Lib.hid h_aftern
    clear h_aftern
    rcases none_parts x.o.elem with ⟨h_elem1, h_elem2, h_elem3, h_elemn⟩ | ⟨h_elem1, h_elemn⟩ | ⟨h_elem1, h_elem2, h_elemn⟩ | ⟨h_elem1, h_elem2, h_elem3, h_elemn⟩
    rotate_left
    · have H_elem := Lib.hid h_elemn
      clear h_elemn
      go_wp2
      go_ret
      exact ⟨by rw [HF.out]; simp [H_dir.out, H_dots.out, H_after.out, H_elem.out], HB.out⟩
    · have H_elem := Lib.hid h_elemn
      clear h_elemn
      go_wp2
      go_ret
      exact ⟨by rw [HF.out]; simp [H_dir.out, H_dots.out, H_after.out, H_elem.out], HB.out⟩
    · have H_elem := Lib.hid h_elemn
      clear h_elemn
      go_wp2
      go_ret
      exact ⟨by rw [HF.out]; simp [H_dir.out, H_dots.out, H_after.out, H_elem.out], HB.out⟩
    have H_elem := Lib.hid h_elemn
    clear h_elemn
    by_cases h_text : x.o.text = []
    rotate_left
    · have f_text : ((bs x.o.text).toList == []) = false := by rw [empty_list]; exact decide_eq_false h_text
      have H_text := Lib.hid h_text
      clear h_text
      go_wp2
      go_ret
      exact ⟨by rw [HF.out]; simp [H_dir.out, H_dots.out, H_after.out, H_elem.out, H_text.out], HB.out⟩
    have f_text : ((bs x.o.text).toList == []) = true := by rw [empty_list]; exact decide_eq_true h_text
    have H_text := Lib.hid h_text
    clear h_text
    by_cases h_elems : x.o.elems = []
    rotate_left
    · have f_elems : decide ((0 : Int) < (x.o.elems.length : Int)) = true := by rw [len_pos]; simpa using h_elems
      have g_elems : 0 < x.o.elems.length := List.length_pos_iff.2 h_elems
      have H_elems := Lib.hid h_elems
      clear h_elems
      go_wp2
      go_ret
      exact ⟨by rw [HF.out]; simp [H_dir.out, H_dots.out, H_after.out, H_elem.out, H_text.out, H_elems.out], HB.out⟩
    have f_elems : decide ((0 : Int) < (x.o.elems.length : Int)) = false := by rw [len_pos]; simpa using h_elems
    have g_elems : ¬ 0 < x.o.elems.length := by rw [h_elems]; simp
    have H_elems := Lib.hid h_elems
    clear h_elems
    go_wp2
    go_ret
    exact ⟨by rw [HF.out]; simp [H_dir.out, H_dots.out, H_after.out, H_elem.out, H_text.out, H_elems.out], HB.out⟩

/-- What the walk of 'more' keeps of a boxed operation of kind 4. -/
def Lefterase (w : World) (b : Nat) (x : OpR) : Prop := w.cell? ⟨b, 4, none⟩ = some (.int .i64 x.o.parent.1) ∧ w.cell? ⟨b, 5, none⟩ = some (.int .i64 x.o.parent.2.1) ∧ w.cell? ⟨b, 6, none⟩ = some (.int .i64 x.o.parent.2.2) ∧ w.cell? ⟨b, 7, none⟩ = some (.string (bs x.o.name)) ∧ w.cell? ⟨b, 8, none⟩ = some (.bool x.o.dir) ∧ w.cell? ⟨b, 9, none⟩ = some (.slice x.dA x.o.dots.length x.dc) ∧ w.cell? ⟨b, 10, none⟩ = some (.int .i64 x.o.after.1) ∧ w.cell? ⟨b, 11, none⟩ = some (.int .i64 x.o.after.2.1) ∧ w.cell? ⟨b, 12, none⟩ = some (.int .i64 x.o.after.2.2) ∧ w.cell? ⟨b, 13, none⟩ = some (.int .i64 x.o.elem.1) ∧ w.cell? ⟨b, 14, none⟩ = some (.int .i64 x.o.elem.2.1) ∧ w.cell? ⟨b, 15, none⟩ = some (.int .i64 x.o.elem.2.2) ∧ w.cell? ⟨b, 16, none⟩ = some (.string (bs x.o.text)) ∧ w.cell? ⟨b, 17, none⟩ = some (.slice none 0 0)
set_option maxRecDepth 100000 in
set_option maxHeartbeats 4000000 in
theorem more_erase (x : OpR) (w : World) (hk : x.o.kind = 4) : Calls Try.prog 60 #[.agg x.cells.toArray] w fun e w' => e = .returned (.bool (!bare x.o false false false false true)) ∧ Below w.heap.size w w' := by
  obtain ⟨hb0, ho0⟩ := op_new w x
  have hbx : (w.alloc (.cells x.cells.toArray 44)).heap[w.heap.size]? = some (.cells x.cells.toArray 44 (0, 0)) := heap_alloc_new w _
  have BB := Lib.hid hb0
  have HF : Hid (bare x.o false false false false true = (noneI x.o.parent && decide (x.o.name = []) && !x.o.dir && decide (x.o.dots = []) && noneI x.o.after && noneI x.o.elem && decide (x.o.text = []))) := by
    show _ = _
    unfold bare
    simp [Bool.and_assoc]
  obtain ⟨W0, hW⟩ : ∃ W0, w.alloc (.cells x.cells.toArray 44) = W0 := ⟨_, rfl⟩
  have hsz : W0.heap.size = w.heap.size + 1 := by rw [← hW]; simp
  rw [hW] at BB hbx ho0
  have z17 := frozen_of_row W0 w.heap.size 17 _ 44 hbx
  obtain ⟨d0, d1, d2, d3, d4, d5, d6, d7, d8, d9, d10, d11, d12, d13, d14, d15, d16, d17⟩ := ho0
  rw [hk] at d0
  have HBX := Lib.hid hbx
  clear hb0 hbx hk d1 d2 d3
  go_enter Try.func60, Try.ntmps60
  go_upto_region 12 with fail
  go_cut [3] from 27 to 69 (fun p wx => ∃ q, p = .pointer (some ⟨q, 0, none⟩) ∧ (wx.cell? ⟨q, 0, none⟩ = some (.int .i64 0) ∧ wx.cell? ⟨q, 1, none⟩ = some (.int .i64 0) ∧ wx.cell? ⟨q, 2, none⟩ = some (.int .i64 0)) ∧ Lefterase wx w.heap.size x ∧ Hid (Below w.heap.size w wx))
  case first =>
    go_wp2
    go_meet
    case rel =>
      have h1 := heap_setCell_same W0 w.heap.size 17 _ 44 (.slice none 0 0) HBX.out
      have hE : (W0.setCell ⟨w.heap.size, 17, none⟩ (.slice none 0 0)).heap.size = w.heap.size + 1 := by simp [hsz]
      have hfin := (Below.heap_alloc (W0.setCell ⟨w.heap.size, 17, none⟩ (.slice none 0 0)) (.cells #[.int .i64 0, .int .i64 0, .int .i64 0] 40) w.heap.size (by rw [hE]; omega)).trans h1
      have hnew := heap_alloc_new (W0.setCell ⟨w.heap.size, 17, none⟩ (.slice none 0 0)) (.cells #[.int .i64 0, .int .i64 0, .int .i64 0] 40)
      rw [hE] at hnew
      refine ⟨_, rfl, ⟨by rw [cell_of_row _ _ 0 _ _ _ hnew]; rfl, by rw [cell_of_row _ _ 1 _ _ _ hnew]; rfl, by rw [cell_of_row _ _ 2 _ _ _ hnew]; rfl⟩, ⟨by rw [cell_of_row _ _ 4 _ _ _ hfin]; rfl, by rw [cell_of_row _ _ 5 _ _ _ hfin]; rfl, by rw [cell_of_row _ _ 6 _ _ _ hfin]; rfl, by rw [cell_of_row _ _ 7 _ _ _ hfin]; rfl, by rw [cell_of_row _ _ 8 _ _ _ hfin]; rfl, by rw [cell_of_row _ _ 9 _ _ _ hfin]; rfl, by rw [cell_of_row _ _ 10 _ _ _ hfin]; rfl, by rw [cell_of_row _ _ 11 _ _ _ hfin]; rfl, by rw [cell_of_row _ _ 12 _ _ _ hfin]; rfl, by rw [cell_of_row _ _ 13 _ _ _ hfin]; rfl, by rw [cell_of_row _ _ 14 _ _ _ hfin]; rfl, by rw [cell_of_row _ _ 15 _ _ _ hfin]; rfl, by rw [cell_of_row _ _ 16 _ _ _ hfin]; rfl, by rw [cell_of_row _ _ 17 _ _ _ hfin]; rfl⟩, ?_⟩
      show Below _ _ _
      exact ((BB.out).setCell (p := ⟨w.heap.size, 17, none⟩) (Nat.le_refl _) (.slice none 0 0)).alloc (by rw [hE]; omega) _
  case rest =>
    clear d0 d4 d5 d6 d7 d8 d9 d10 d11 d12 d13 d14 d15 d16 d17 z17 BB hW hsz HBX
    obtain ⟨q, rfl, ⟨q0, q1, q2⟩, hleft, HB⟩ := hcut
    obtain ⟨d4, d5, d6, d7, d8, d9, d10, d11, d12, d13, d14, d15, d16, d17⟩ := hleft
    rcases none_parts x.o.parent with ⟨h_parent1, h_parent2, h_parent3, h_parentn⟩ | ⟨h_parent1, h_parentn⟩ | ⟨h_parent1, h_parent2, h_parentn⟩ | ⟨h_parent1, h_parent2, h_parent3, h_parentn⟩
    rotate_left
    · have H_parent := Lib.hid h_parentn
      clear h_parentn
      go_wp2
      go_ret
      exact ⟨by rw [HF.out]; simp [H_parent.out], HB.out⟩
    · have H_parent := Lib.hid h_parentn
      clear h_parentn
      go_wp2
      go_ret
      exact ⟨by rw [HF.out]; simp [H_parent.out], HB.out⟩
    · have H_parent := Lib.hid h_parentn
      clear h_parentn
      go_wp2
      go_ret
      exact ⟨by rw [HF.out]; simp [H_parent.out], HB.out⟩
    have H_parent := Lib.hid h_parentn
    clear h_parentn
    by_cases h_name : x.o.name = []
    rotate_left
    · have f_name : ((bs x.o.name).toList == []) = false := by rw [empty_list]; exact decide_eq_false h_name
      have H_name := Lib.hid h_name
      clear h_name
      go_wp2
      go_ret
      exact ⟨by rw [HF.out]; simp [H_parent.out, H_name.out], HB.out⟩
    have f_name : ((bs x.o.name).toList == []) = true := by rw [empty_list]; exact decide_eq_true h_name
    have H_name := Lib.hid h_name
    clear h_name
    cases hdir : x.o.dir
    rotate_left
    · have H_dir := Lib.hid hdir
      rw [hdir] at d8
      clear hdir
      go_wp2
      go_ret
      exact ⟨by rw [HF.out]; simp [H_parent.out, H_name.out, H_dir.out], HB.out⟩
    have H_dir := Lib.hid hdir
    rw [hdir] at d8
    clear hdir
    by_cases h_dots : x.o.dots = []
    rotate_left
    · have f_dots : decide ((0 : Int) < (x.o.dots.length : Int)) = true := by rw [len_pos]; simpa using h_dots
      have g_dots : 0 < x.o.dots.length := List.length_pos_iff.2 h_dots
      have H_dots := Lib.hid h_dots
      clear h_dots
      go_wp2
      go_ret
      exact ⟨by rw [HF.out]; simp [H_parent.out, H_name.out, H_dir.out, H_dots.out], HB.out⟩
    have f_dots : decide ((0 : Int) < (x.o.dots.length : Int)) = false := by rw [len_pos]; simpa using h_dots
    have g_dots : ¬ 0 < x.o.dots.length := by rw [h_dots]; simp
    have H_dots := Lib.hid h_dots
    clear h_dots
    rcases none_parts x.o.after with ⟨h_after1, h_after2, h_after3, h_aftern⟩ | ⟨h_after1, h_aftern⟩ | ⟨h_after1, h_after2, h_aftern⟩ | ⟨h_after1, h_after2, h_after3, h_aftern⟩
    rotate_left
    · have H_after := Lib.hid h_aftern
      clear h_aftern
      go_wp2
      go_ret
      exact ⟨by rw [HF.out]; simp [H_parent.out, H_name.out, H_dir.out, H_dots.out, H_after.out], HB.out⟩
    · have H_after := Lib.hid h_aftern
      clear h_aftern
      go_wp2
      go_ret
      exact ⟨by rw [HF.out]; simp [H_parent.out, H_name.out, H_dir.out, H_dots.out, H_after.out], HB.out⟩
    · have H_after := Lib.hid h_aftern
      clear h_aftern
      go_wp2
      go_ret
      exact ⟨by rw [HF.out]; simp [H_parent.out, H_name.out, H_dir.out, H_dots.out, H_after.out], HB.out⟩
    have H_after := Lib.hid h_aftern
    clear h_aftern
    rcases none_parts x.o.elem with ⟨h_elem1, h_elem2, h_elem3, h_elemn⟩ | ⟨h_elem1, h_elemn⟩ | ⟨h_elem1, h_elem2, h_elemn⟩ | ⟨h_elem1, h_elem2, h_elem3, h_elemn⟩
    rotate_left
    · have H_elem := Lib.hid h_elemn
      clear h_elemn
      go_wp2
      go_ret
      exact ⟨by rw [HF.out]; simp [H_parent.out, H_name.out, H_dir.out, H_dots.out, H_after.out, H_elem.out], HB.out⟩
    · have H_elem := Lib.hid h_elemn
      clear h_elemn
      go_wp2
      go_ret
      exact ⟨by rw [HF.out]; simp [H_parent.out, H_name.out, H_dir.out, H_dots.out, H_after.out, H_elem.out], HB.out⟩
    · have H_elem := Lib.hid h_elemn
      clear h_elemn
      go_wp2
      go_ret
      exact ⟨by rw [HF.out]; simp [H_parent.out, H_name.out, H_dir.out, H_dots.out, H_after.out, H_elem.out], HB.out⟩
    have H_elem := Lib.hid h_elemn
    clear h_elemn
    by_cases h_text : x.o.text = []
    rotate_left
    · have f_text : ((bs x.o.text).toList == []) = false := by rw [empty_list]; exact decide_eq_false h_text
      have H_text := Lib.hid h_text
      clear h_text
      go_wp2
      go_ret
      exact ⟨by rw [HF.out]; simp [H_parent.out, H_name.out, H_dir.out, H_dots.out, H_after.out, H_elem.out, H_text.out], HB.out⟩
    have f_text : ((bs x.o.text).toList == []) = true := by rw [empty_list]; exact decide_eq_true h_text
    have H_text := Lib.hid h_text
    clear h_text
    go_wp2
    go_ret
    exact ⟨by rw [HF.out]; simp [H_parent.out, H_name.out, H_dir.out, H_dots.out, H_after.out, H_elem.out, H_text.out], HB.out⟩

end Go.Proofs.Ytphnimmhjnhajaa.W8

