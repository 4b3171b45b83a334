/-
  Layer 6, walks: read, the code points of a text.
-/
import Derived.Test.YtpdghmecodlhhaaP6a
import Derived.Lib.OthersKept
import Derived.RangeFuncBox
import Derived.Maps.AppendAt
namespace Go.Proofs.Ytpdghmecodlhhaa.P6
open Go.RowKit Go.PlainAid M6
set_option linter.unusedVariables false

/-- Code points, as runes. -/
def rns (cs : List Nat) : List Value := cs.map fun (c : Nat) => Value.int .i32 (c : Int)
theorem rns_len (cs : List Nat) : (rns cs).length = cs.length := by simp [rns]
theorem rns_take (cs : List Nat) (k : Nat) (h : k < cs.length) : rns (cs.take (k + 1)) = rns (cs.take k) ++ [Value.int .i32 ((cs[k] : Nat) : Int)] := by
  unfold rns; rw [List.take_succ_eq_append_getElem h, List.map_append]; rfl
theorem rns_get {cs : List Nat} {k : Nat} (h : k < (rns cs).length) : (rns cs)[k] = Value.int .i32 ((cs[k]'(by simpa [rns] using h) : Nat) : Int) := by simp [rns]
theorem info_rune : (Try.prog.info? 21).map (fun i => (i.zero, i.size, i.bytes)) = some (some (.int .i32 0), 1, 4) := by kernel_rfl
theorem chain {w a b : World} (h : Below w.heap.size w a) (k : Below a.heap.size a b) : Below w.heap.size w b := h.trans (k.mono h.size)

/-- The iterator stands there. -/
def It (wr : World) (B : Nat) (l : List UInt8) (pos : Nat) : Prop := wr.heap[B]? = some (.stringIter (bs l) pos)
theorem It.lt {wr : World} {B : Nat} {l : List UInt8} {pos : Nat} (h : It wr B l pos) : B < wr.heap.size := (Array.getElem?_eq_some_iff.1 h).1
theorem It.moved {wr : World} {B : Nat} {l : List UInt8} {pos : Nat} (h : It wr B l pos) (p : Nat) : It (wr.iterAt B (bs l) p) B l p := Lib.iterAt_heap _ _ _ _ _ h
theorem It.pos {wr : World} {B : Nat} {l : List UInt8} {pos : Nat} (h : It wr B l pos) : wr.iterPos B = pos := by unfold World.iterPos; rw [show wr.heap[B]? = _ from h]
theorem It.own {wr : World} {B : Nat} {l : List UInt8} {pos : Nat} (h : It wr B l pos) {base : Nat} {e : TypeId} {v : Value} {n : Nat} {xs : List Value} (ho : wr.ownsRow base e 1 v n xs) (p : Nat) :
    (wr.iterAt B (bs l) p).ownsRow base e 1 v n xs := ownsRow_putObj ho (l := B) (.stringIter (bs l) p) h rfl
theorem It.apart {wr : World} {B : Nat} {l : List UInt8} {pos : Nat} (h : It wr B l pos) {base : Nat} {e : TypeId} {v : Value} {n : Nat} {xs : List Value} (ho : wr.ownsRow base e 1 v n xs) : some B ≠ v.ownBlock := by
  rcases ho.2 with ⟨rfl, _⟩ | ⟨g, cap, cur, rfl, _, hgb, _⟩
  · simp [Value.ownBlock]
  · intro e'
    obtain rfl : B = g := by simpa [Value.ownBlock] using e'
    have := (show wr.heap[B]? = _ from h).symm.trans hgb
    cases this
theorem It.grown {wr w' : World} {B : Nat} {l : List UInt8} {pos : Nat} (h : It wr B l pos) {row : Option Nat} (hg : wr.grownBy w' row) (hne : some B ≠ row) : It w' B l pos := (hg.block B h.lt hne).trans h
theorem It.alloc {wr : World} {B : Nat} {l : List UInt8} {pos : Nat} (h : It wr B l pos) (o : Obj) : It (wr.alloc o) B l pos := h.grown (World.grownBy_alloc wr o none) (by simp)
theorem It.new (w : World) (l : List UInt8) : It (w.iter (bs l) 0) w.heap.size l 0 := World.iter_heap w _ 0
theorem It.next {P : Program} {wr : World} {B : Nat} {l : List UInt8} {pos : Nat} (h : It wr B l pos) (hp : pos < l.length) {c n : Nat} (hd : Utf8.decode (bs l) pos = (c, n)) (ty : TypeId) :
    (Instr.next (.pointer (some ⟨B, 0, none⟩)) true ty).run P wr = .ok (.tuple #[.bool true, .int .i64 (pos : Int), .int .i32 (c : Int)]) (wr.iterAt B (bs l) (pos + n)) := by
  have := Lib.run_next_any_at (P := P) wr B (bs l) pos ty h (by rw [bs_size]; exact hp)
  rw [hd] at this
  exact this
theorem It.done {P : Program} {wr : World} {B : Nat} {l : List UInt8} {pos : Nat} (h : It wr B l pos) (hp : l.length ≤ pos) (ty : TypeId) :
    (Instr.next (.pointer (some ⟨B, 0, none⟩)) true ty).run P wr = .ok (.tuple #[.bool false]) wr :=
  Lib.run_next_end_at wr B (bs l) pos ty h (by rw [bs_size]; omega)
theorem below_iter (w : World) (l : List UInt8) : Below w.heap.size w (w.iter (bs l) 0) := (Below.refl _ w).alloc (Nat.le_refl _) _

theorem hasPre_at {l : List UInt8} {k : Nat} {b : Bool} (hz : l.length ≤ 9223372036854775807) (h : decide ((l.drop k).take 3 = [239, 191, 189]) = b) (w : World) :
    Calls Try.prog 33 #[.string ((bs l).extract k (bs l).size), .string ⟨#[239, 191, 189]⟩] w fun e w' => e = .returned (.bool b) ∧ w = w' := by
  rw [ext_end, bs_list]
  have := hasPre_any (bs (l.drop k)) ⟨#[239, 191, 189]⟩ w (by rw [bs_size, List.length_drop]; omega) (by decide)
  rw [bs_list] at this
  rw [← h]
  exact this

/-- WHAT THE LOOP OF read KEEPS. -/
def ReadRel (l : List UInt8) (cs : List Nat) (w : World) (v : Value) (wr : World) : Prop :=
  ∃ k : Nat, k ≤ cs.length ∧ It wr w.heap.size l (flat (cs.take k)).length ∧ wr.ownsRow w.heap.size 21 1 v k (rns (cs.take k)) ∧ Below w.heap.size w wr
/-- What read answers. -/
def ReadE (cs : List Nat) (r : List UInt8) (w : World) (e : Ending) (w' : World) : Prop :=
  (r ≠ [] ∧ e = .returned (.tuple #[.slice none 0 0, .int .i64 60])) ∨ (r = [] ∧ ∃ v, e = .returned (.tuple #[v, .int .i64 0]) ∧ w'.ownsRow w.heap.size 21 1 v cs.length (rns cs))

set_option maxRecDepth 100000 in
set_option maxHeartbeats 1000000 in
theorem read_any (l : List UInt8) (cs : List Nat) (r : List UInt8) (h : Reads l cs r) (hz : l.length ≤ 1099511627776) (w : World) :
    Calls Try.prog 26 #[.string (bs l)] w fun e w' => ReadE cs r w e w' ∧ Below w.heap.size w w' := by
  obtain ⟨i0, hi0, hz0, hz1, hz2⟩ := info_parts info_rune
  have h0 : ReadRel l cs w (.slice none 0 0) (w.iter (bs l) 0) := ⟨0, by omega, It.new w l, World.ownsRow_nil _ _ _ _, below_iter w l⟩
  have H0 := Lib.hid h0
  have H := Lib.hid h
  have hcl : cs.length ≤ l.length := by rw [h.split, List.length_append]; have := flat_len_le (cs := cs); omega
  clear h0 h
  go_enter Try.func26, Try.ntmps26
  go_wp2
  go_loopw [4] (fun v wr => ReadRel l cs w v wr) (fun _ wr => l.length - wr.iterPos w.heap.size)
  case atStart => exact H0.out
  case round =>
    clear H0
    obtain ⟨k, hk, hit, ho, hb⟩ := hrel
    have hB : w.heap.size ≤ wr.heap.size := hb.size
    by_cases hlt : k < cs.length
    · have hpl := (H.out.at hlt).2
      have hnx := fun ty => hit.next (P := Try.prog) hpl (H.out.dec hlt) ty
      have HF := Lib.hid (flat_take cs k hlt)
      have hpos := hit.pos
      have hep := enc_pos cs[k]
      have hit1 := hit.moved ((flat (cs.take k)).length + (enc cs[k]).length)
      have ho1 := hit.own ho ((flat (cs.take k)).length + (enc cs[k]).length)
      have hb1 := Lib.below_iterAt hb (Nat.le_refl _) (bs l) ((flat (cs.take k)).length + (enc cs[k]).length)
      have HR := Lib.hid (rns_take cs k hlt)
      have hfe : (flat (cs.take k)).length + (enc cs[k]).length = (flat (cs.take (k + 1))).length := by rw [HF.out, List.length_append]
      rw [hfe] at hnx hit1 ho1 hb1
      have hfn : (flat (cs.take k)).length < (flat (cs.take (k + 1))).length := by omega
      have hpre : cs[k] = 65533 → decide ((l.drop (flat (cs.take k)).length).take 3 = [239, 191, 189]) = true := fun hf => decide_eq_true (H.out.pre hlt hf)
      clear hit ho hb hfe
      generalize cs[k] = c at hnx HR hpre
      generalize hposk : (flat (cs.take k)).length = pk at hnx hpl hpos hfn hpre
      generalize hposn : (flat (cs.take (k + 1))).length = pn at hnx hit1 ho1 hb1 hfn
      generalize wr.iterAt w.heap.size (bs l) pn = W1 at hnx hit1 ho1 hb1
      have hps : pk ≤ (bs l).size := by rw [bs_size]; omega
      have hB1 : w.heap.size ≤ W1.heap.size := hb1.size
      by_cases hc : c = 65533
      · have hpr := hpre hc
        have hcd : ((c : Int) == 65533) = true := by rw [hc]; rfl
        clear hpre hc
        go_wp2_with fail
        refine (hasPre_at (by omega) hpr _).mono ?_
        rintro e w1 ⟨rfl, rfl⟩
        go_wp2_with (at_builtin; refine wpList_append_own _ rfl (.tmp 22) (.tmp 24) 49 rfl w.heap.size 21 i0 (.int .i32 0) 1 4 Try.underlying49 hi0 hz0 hz1 hz2 rfl (by decide) _ _ _ rfl (ho1.alloc _) ⟨W1.heap.size, 0, none⟩ 1 1 _ rfl rfl (cell_one_new _ _ _) (by simp [Value.oneCell']) (by unfold maxLen; omega) (by omega) (by have := hb1.size; simp; omega) ?_; intro v1 w2 hown1 hg1 _)
        go_wp2
        have hap := (hit1.alloc _).apart (ho1.alloc (.cells #[.int .i32 (c : Int)] 21))
        have hit2 := (hit1.alloc _).grown hg1 hap
        go_roundw
        case rel => exact ⟨k + 1, by omega, by rw [hposn]; exact hit2, by rw [HR.out]; exact hown1, (hb1.alloc hb1.size _).grown hg1 (by simp; omega) (fun q hq => (ho1.lt q hq).1)⟩
        case measure => rw [hpos, hit2.pos]; omega
      · have hcd : ((c : Int) == 65533) = false := by simp; omega
        clear hpre hc
        go_wp2_with (at_builtin; refine wpList_append_own _ rfl (.tmp 22) (.tmp 24) 49 rfl w.heap.size 21 i0 (.int .i32 0) 1 4 Try.underlying49 hi0 hz0 hz1 hz2 rfl (by decide) _ _ _ rfl (ho1.alloc _) ⟨W1.heap.size, 0, none⟩ 1 1 _ rfl rfl (cell_one_new _ _ _) (by simp [Value.oneCell']) (by unfold maxLen; omega) (by omega) (by have := hb1.size; simp; omega) ?_; intro v1 w2 hown1 hg1 _)
        go_wp2
        have hap := (hit1.alloc _).apart (ho1.alloc (.cells #[.int .i32 (c : Int)] 21))
        have hit2 := (hit1.alloc _).grown hg1 hap
        go_roundw
        case rel => exact ⟨k + 1, by omega, by rw [hposn]; exact hit2, by rw [HR.out]; exact hown1, (hb1.alloc hb1.size _).grown hg1 (by simp; omega) (fun q hq => (ho1.lt q hq).1)⟩
        case measure => rw [hpos, hit2.pos]; omega
    · obtain rfl : k = cs.length := by omega
      rw [List.take_length] at hit ho
      by_cases hr : r = []
      · have hend : l.length ≤ (flat cs).length := by rw [H.out.split, hr, List.append_nil]; omega
        have hnx := fun ty => hit.done (P := Try.prog) hend ty
        go_wp2
        go_ret2
        exact ⟨.inr ⟨hr, _, rfl, ho⟩, hb⟩
      · obtain ⟨hd, hnp, hpl⟩ := H.out.dec_end hr
        have hnx := fun ty => hit.next (P := Try.prog) hpl hd ty
        have hpr : decide ((l.drop (flat cs).length).take 3 = [239, 191, 189]) = false := decide_eq_false hnp
        have hb1 := Lib.below_iterAt hb (Nat.le_refl _) (bs l) ((flat cs).length + 1)
        have hps : (flat cs).length ≤ (bs l).size := by rw [bs_size]; omega
        clear hit ho hb hd hnp
        generalize (flat cs).length = pk at *
        generalize wr.iterAt w.heap.size (bs l) (pk + 1) = W1 at hnx hb1
        go_wp2_with fail
        refine (hasPre_at (by omega) hpr _).mono ?_
        rintro e w1 ⟨rfl, rfl⟩
        go_wp2
        go_ret2
        exact ⟨.inl ⟨hr, rfl⟩, hb1⟩

end Go.Proofs.Ytpdghmecodlhhaa.P6
