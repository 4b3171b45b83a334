/-
  Layer 8, walks of the program: rows of bytes that are put together.
-/
import Derived.Test.YtphnimmhjnhajaaKW8k
import Derived.Test.YtphnimmhjnhajaaKW9l
import Derived.Test.YtphnimmhjnhajaaKB
import Derived.StillTailTactics
import Derived.Deep.RegionLawGrows
import Derived.Lib.AppendStr
namespace Go.Proofs.Ytphnimmhjnhajaa.W8
open Go.RowKit Go.PlainAid M8 V1
set_option linter.unusedVariables false

/-- The block in which the parcel's bytes lie. -/
def Mine (w : World) (b c : Nat) : Prop := ∃ v T, w.heap[b]? = some (.cells #[v] T (0, 0)) ∧ v.ownBlock = some c
/-- What a step on the parcel at b leaves as it was. -/
structure Stp (b : Nat) (w w' : World) : Prop where
  below : Below b w w'
  kept : ∀ c, c ≠ b → c < w.heap.size → ¬ Mine w b c → w'.heap[c]? = w.heap[c]? ∧ ¬ Mine w' b c
theorem Stp.refl (b : Nat) (w : World) : Stp b w w := ⟨Below.refl _ _, fun _ _ _ h => ⟨rfl, h⟩⟩
theorem Stp.trans {b : Nat} {w w1 w2 : World} (h : Stp b w w1) (k : Stp b w1 w2) : Stp b w w2 := by
  refine ⟨h.below.trans k.below, fun c hc hl hn => ?_⟩
  obtain ⟨h1, h2⟩ := h.kept c hc hl hn
  obtain ⟨h3, h4⟩ := k.kept c hc (Nat.lt_of_lt_of_le hl h.below.size) h2
  exact ⟨h3.trans h1, h4⟩
theorem Stp.of {b : Nat} {w w' : World} (h : Below w.heap.size w w') (hb : b < w.heap.size) : Stp b w w' := by
  refine ⟨h.mono (Nat.le_of_lt hb), fun c _ hl hn => ⟨h.block c hl, fun ⟨v, T, h1, h2⟩ => hn ⟨v, T, ?_, h2⟩⟩⟩
  rw [← h.block b hb]; exact h1
/-- The parcel at b has these bytes. -/
def Par (w : World) (b : Nat) (T : TypeId) (l : List UInt8) : Prop := ∃ v, w.heap[b]? = some (.cells #[v] T (0, 0)) ∧ w.ownsRow (b + 1) 5 1 v l.length (u8s l)
theorem Par.lt {w : World} {b : Nat} {T : TypeId} {l : List UInt8} (h : Par w b T l) : b < w.heap.size := by
  obtain ⟨v, h1, _⟩ := h
  exact (Array.getElem?_eq_some_iff.1 h1).1
theorem grown_of {w w' : World} (h : Below w.heap.size w w') : w.grownBy w' none := ⟨h.os, h.tape, h.output, h.size, fun k hk _ => h.block k hk⟩
theorem row_keep {w w' : World} {B : Nat} {v : Value} {n : Nat} {xs : List Value} (h : w.ownsRow B 5 1 v n xs) (hb : Below w.heap.size w w') : w'.ownsRow B 5 1 v n xs := by
  cases hv : v.ownBlock with
  | none => exact h.kept (grown_of hb) (.inl hv)
  | some q => exact h.kept (grown_of hb) (.inr (by rw [hv]; simp))
theorem Par.keep {w w' : World} {b : Nat} {T : TypeId} {l : List UInt8} (h : Par w b T l) (hb : Below w.heap.size w w') : Par w' b T l := by
  have hl := h.lt
  obtain ⟨v, h1, h2⟩ := h
  refine ⟨v, (hb.block b hl).trans h1, ?_⟩
  cases hv : v.ownBlock with
  | none => exact h2.kept (grown_of hb) (.inl hv)
  | some q => exact h2.kept (grown_of hb) (.inr (by rw [hv]; simp))
theorem Par.new (w : World) (T : TypeId) : Par (w.alloc (.cells #[.slice none 0 0] T)) w.heap.size T [] := ⟨_, heap_alloc_new w _, World.ownsRow_nil _ _ _ _⟩
theorem own_typed {w : World} {B : Nat} {v : Value} {n : Nat} {xs : List Value} (h : w.ownsRow B 5 1 v n xs) {q : Nat} (hq : v.ownBlock = some q) : ∃ cur, w.heap[q]? = some (.cells cur 5 (0, 0)) := by
  rcases h.2 with ⟨h1, _⟩ | ⟨g, cap, cur, h1, _, hh, _⟩
  · rw [h1] at hq; cases hq
  · rw [h1] at hq
    have : g = q := by simpa [Value.ownBlock] using hq
    subst this
    exact ⟨cur, hh⟩
theorem Par.mine {w : World} {b : Nat} {T : TypeId} {l : List UInt8} (h : Par w b T l) {c : Nat} (hm : Mine w b c) : ∃ cur, w.heap[c]? = some (.cells cur 5 (0, 0)) := by
  obtain ⟨v, h1, h2⟩ := h
  obtain ⟨v2, T2, h3, h4⟩ := hm
  rw [h1] at h3
  injection h3 with h3
  injection h3 with h5 _ _
  injection h5 with h5
  injection h5 with h6 _
  subst h6
  exact own_typed h2 h4
theorem Stp.box {b : Nat} {w w' : World} (h : Stp b w w') {T : TypeId} {l : List UInt8} (hp : Par w b T l) {c : Nat} {cs : Array Value} {t : TypeId} {fr : Nat × Nat} (hc : w.heap[c]? = some (.cells cs t fr)) (ht : t ≠ 5) (hcb : c ≠ b) : w'.heap[c]? = some (.cells cs t fr) := by
  rw [(h.kept c hcb (Array.getElem?_eq_some_iff.1 hc).1 (fun hm => by
    obtain ⟨cur, he⟩ := hp.mine hm
    rw [hc] at he
    injection he with he
    injection he with _ h2 _
    exact ht h2)).1]
  exact hc
theorem bytesB_len9 {l : List UInt8} (h : l.length ≤ 1000000) : (bytesB l).length ≤ 1000009 := by
  unfold bytesB
  have := natB_len9 (n := l.length) (by omega)
  rw [List.length_append]
  omega
theorem natsR_len9 (zs : List Int) (hle : zs.length ≤ 1000000) (hz : ∀ z ∈ zs, z ≤ 9223372036854775807) : (natsR zs).1.length ≤ 10000000 := by
  by_cases h : ∀ z ∈ zs.take zs.length, 0 ≤ z
  · rw [natsR_ok h]
    have := pre_len zs zs.length hz hle
    show (pre zs zs.length).length ≤ _
    exact Nat.le_trans this (by omega)
  · have : ∃ k, ∃ hk : k < zs.length, zs[k] < 0 := by
      refine Classical.byContradiction fun hn => h fun z hz0 => ?_
      rw [List.take_length] at hz0
      obtain ⟨k, hk, rfl⟩ := List.getElem_of_mem hz0
      refine Classical.byContradiction fun h2 => hn ⟨k, hk, by omega⟩
    obtain ⟨k, hk, hneg⟩ := this
    rw [natsR_bad hk hneg]
    simp
/-- A step: what is appended, and the parcel's cell written. -/
theorem put_step {w w2 : World} {b : Nat} {T : TypeId} {l d : List UInt8} {v v' : Value} (h : w.heap[b]? = some (.cells #[v] T (0, 0))) (ho : w.ownsRow (b + 1) 5 1 v l.length (u8s l)) (hg : w.grownBy w2 v.ownBlock) (ho2 : w2.ownsRow (b + 1) 5 1 v' (l.length + d.length) (u8s l ++ u8s d)) (hw : v'.ownBlock = v.ownBlock ∨ v'.ownBlock = some w.heap.size) :
    w2.cell? ⟨b, 0, none⟩ = some v ∧ w2.frozen? ⟨b, 0, none⟩ = false ∧ Par (w2.setCell ⟨b, 0, none⟩ v') b T (l ++ d) ∧ Stp b w (w2.setCell ⟨b, 0, none⟩ v') := by
  have hb : b < w.heap.size := (Array.getElem?_eq_some_iff.1 h).1
  have hlo : ∀ q, v.ownBlock = some q → b + 1 ≤ q := fun q hq => (ho.lt q hq).1
  have hne : some b ≠ v.ownBlock := fun e => by have := hlo b e.symm; omega
  have h2 : w2.heap[b]? = some (.cells #[v] T (0, 0)) := (hg.block b hb hne).trans h
  have h3 := heap_setCell_same w2 b 0 _ T v' h2
  refine ⟨by rw [cell_of_row w2 b 0 _ T (0, 0) h2]; rfl, frozen_of_row w2 b 0 _ T h2, ⟨v', h3, ?_⟩, ?_, fun c hc hl hn => ?_⟩
  · have := ownsRow_setCell_below ho2 (a := ⟨b, 0, none⟩) (Nat.lt_succ_self b) v'
    rw [u8s_append, List.length_append]
    exact this
  · exact ((Below.refl b w).grown hg (Nat.le_of_lt hb) (fun k hk => by have := hlo k hk; omega)).setCell (p := ⟨b, 0, none⟩) (Nat.le_refl _) v'
  · have hcv : some c ≠ v.ownBlock := fun e => hn ⟨v, T, h, e.symm⟩
    refine ⟨by rw [heap_setCell_other w2 ⟨b, 0, none⟩ c v' hc]; exact hg.block c hl hcv, fun ⟨v3, T3, h4, h5⟩ => ?_⟩
    rw [h3] at h4
    injection h4 with h4
    injection h4 with h6 _ _
    have h7 : v' = v3 := by
      have := congrArg (fun a => a[0]?) h6
      simpa using this
    subst h7
    rcases hw with hw | hw
    · exact hcv (by rw [← hw, h5])
    · rw [hw] at h5
      injection h5 with h5
      omega

/-- Where what was appended lies: where it lay, or in a block of its own. -/
theorem own_where {P : Program} {w w' : World} {base : Nat} {t u ty e : TypeId} {i : TypeInfo} (ht : P.underlying t = some (.slice e)) (hu : P.underlying u = some .string) (hi : P.info? e = some i) (hz : i.zero = some (.int .u8 0)) (hsize : i.size = 1) (hby : i.bytes = 1)
    {v : Value} {n : Nat} {xs : List Value} (hown : w.ownsRow base e 1 v n xs) (s : ByteArray) (h63 : n + s.size ≤ maxLen) (hbytes : n + s.size ≤ 140737488355328) {v' : Value}
    (hrun : (Builtin.append_ #[t, u] ty #[v, .string s]).run P w = .ok v' w') (hnil : v' = .slice none 0 0 ↔ v = .slice none 0 0 ∧ s.size = 0) : v'.ownBlock = v.ownBlock ∨ v'.ownBlock = some w.heap.size := by
  have hsmall : n + s.size ≤ 9223372036854775807 := by simp only [maxLen] at h63; omega
  have hxl : xs.length = n := by simpa using hown.1
  rcases hown.2 with ⟨rfl, rfl⟩ | ⟨g, cap, cur, rfl, hbg, hg, hnc, hcm, hcs, htake⟩
  · by_cases h0 : s.size = 0
    · left
      rw [hnil.2 ⟨rfl, h0⟩]
    · right
      rw [run_append_nil_string (P := P) w t u ty e i (.int .u8 0) ht hu hi hz s (by omega) (by omega) (by rw [hby]; omega)] at hrun
      injection hrun with h1 _
      rw [← h1]
      rfl
  · by_cases hroom : n + s.size ≤ cap
    · left
      have hcs' : cur.size = cap := by simpa using hcs
      rw [Lib.run_append_room_string (P := P) w t u ty e i ht hu hi hsize g n cap cur hg s hroom (by omega)] at hrun
      injection hrun with h1 _
      rw [← h1]
      rfl
    · right
      have holds : ∀ j u, xs[j]? = some u → w.cell? ((⟨g, 0, none⟩ : Addr).add j) = some u := hown.cells (g := g) rfl
      rw [Lib.run_append_grow_string (P := P) w t u ty e i (.int .u8 0) ht hu hi hz ⟨g, 0, none⟩ n cap xs (by rw [hsize]; simpa using hxl) holds s (by omega) (by omega) (by rw [hby]; exact growslice_fits (by omega) (by omega))] at hrun
      injection hrun with h1 _
      rw [← h1]
      rfl
theorem wpList_append_where {P : Program} {w : World} {ops : Array Oper} {rest : List Oper} {o : Oper} {a : Act} {Q : Exit → Act → World → Prop} (hgd : o.guard = none) (sl x : Operand) (t u : TypeId)
    (ho : o.op = .call { callee := .builtin .append, args := #[sl, x], argTypes := #[t, u] })
    (base : Nat) (e : TypeId) (i : TypeInfo) (ht : P.underlying t = some (.slice e)) (hu : P.underlying u = some .string) (hi : P.info? e = some i) (hz : i.zero = some (.int .u8 0)) (hsize : i.size = 1) (hby : i.bytes = 1)
    (v : Value) (n : Nat) (xs : List Value) (hs : a.eval sl = v) (hown : w.ownsRow base e 1 v n xs) (s : ByteArray) (hx : a.eval x = .string s) (h63 : n + s.size ≤ maxLen) (hbytes : n + s.size ≤ 140737488355328) (hbase : base ≤ w.heap.size)
    (h : ∀ v' w', w'.ownsRow base e 1 v' (n + s.size) (xs ++ Lib.strCells s) → w.grownBy w' v.ownBlock → (v'.ownBlock = v.ownBlock ∨ v'.ownBlock = some w.heap.size) → wpList P ops Q rest (a.put o.dst v') w') : wpList P ops Q (o :: rest) a w := by
  refine wpList_plain hgd fun K hK => ?_
  obtain ⟨v', w', hr, h2, h3, h4⟩ := Lib.run_append_own_string (P := P) w base t u o.type e i ht hu hi hz hsize hby v n xs hown s h63 hbytes hbase
  have h5 := own_where ht hu hi hz hsize hby hown s h63 hbytes hr h4
  unfold Oper.wp execOp
  simp only [ho, resolve, invoke, builtin, Sem.run_bind, Sem.run_pure, Result.andThen_ok, List.map_toArray, List.map_cons, List.map_nil, hs, hx, hr]
  exact hK _ _ (h v' w' h2 h3 h5)
theorem step_append_string {P : Program} {ops : Array Oper} {o : Oper} {a : Act} {w : World} {K : Act → World → Prop} {Q : Exit → Act → World → Prop} {E : Prop}
    (hg : o.guard = none) (s x : Operand) (t u : TypeId) (hop : o.op = Op.call { callee := Callee.builtin Builtin.append, args := #[s, x], argTypes := #[t, u] })
    (base : Nat) (e : TypeId) (i : TypeInfo) (ht : P.underlying t = some (.slice e)) (hu : P.underlying u = some .string) (hi : P.info? e = some i) (hz : i.zero = some (.int .u8 0)) (hsize : i.size = 1) (hby : i.bytes = 1)
    (v : Value) (n : Nat) (xs : List Value) (hs : a.eval s = v) (hown : w.ownsRow base e 1 v n xs) (str : ByteArray) (hx : a.eval x = .string str)
    (h63 : n + str.size ≤ maxLen) (hbytes : n + str.size ≤ 140737488355328) (hbase : base ≤ w.heap.size)
    (hK : ∀ v' w', w'.ownsRow base e 1 v' (n + str.size) (xs ++ Lib.strCells str) → w.grownBy w' v.ownBlock → (v'.ownBlock = v.ownBlock ∨ v'.ownBlock = some w.heap.size) → K (a.put o.dst v') w') :
    if Region.wanted o (yielded ops a.tmps) = true then Oper.wp P o a w K Q else E := by
  have hw : Region.wanted o (yielded ops a.tmps) = true := by simp [Region.wanted, hg]
  rw [if_pos hw]
  obtain ⟨v', w', hrun, r1, r2, r4⟩ := Lib.run_append_own_string (P := P) w base t u o.type e i ht hu hi hz hsize hby v n xs hown str h63 hbytes hbase
  have r3 := own_where ht hu hi hz hsize hby hown str h63 hbytes hrun r4
  unfold Oper.wp
  simp [execOp, hop, resolve, invoke, builtin, hs, hx, hrun, Result.andThen]
  exact hK v' w' r1 r2 r3

set_option maxRecDepth 100000 in
set_option maxHeartbeats 2000000 in
theorem pnat_any (n : Int) (hn : n ≤ 9223372036854775807) (w : World) (b : Nat) (T : TypeId) (l : List UInt8) (hp : Par w b T l) (hl : l.length ≤ 1000000000000) :
    Calls Try.prog 21 #[.pointer (some ⟨b, 0, none⟩), .int .i64 n] w fun e w' => e = .returned (.tuple #[]) ∧ Par w' b T (l ++ numB n) ∧ Stp b w w' := by
  obtain ⟨i0, hi0, hz0, hz1, hz2⟩ := info_parts info_u8
  obtain ⟨d, hd⟩ : ∃ d, numB n = d := ⟨_, rfl⟩
  have hdl : d.length ≤ 9 := by rw [← hd]; exact numB_len hn
  have hds := bs_size d
  have hC : Hid (∀ w, Calls Try.prog 37 #[.int .i64 n] w fun e w' => ∃ x, e = .returned (.tuple #[.string (bs d), .int .i64 x]) ∧ Below w.heap.size w w') := by
    show ∀ w, _
    exact fun w => (V1.nat_any n hn w).mono fun e w' ⟨he, hb⟩ => ⟨(natR n).2, by rw [he, ← hd]; rfl, hb⟩
  rw [hd]
  clear hd
  have HP := Lib.hid hp
  have HW := Lib.hid hp.lt
  clear hp
  go_enter Try.func21, Try.ntmps21
  go_wp2_with fail
  refine (hC.out _).mono ?_
  rintro e w1 ⟨x, rfl, hb1⟩
  obtain ⟨v, h1, h2⟩ := HP.out.keep hb1
  have HS1 := Lib.hid (Stp.of (b := b) hb1 HW.out)
  have hbl : b + 1 ≤ w1.heap.size := by have := hb1.size; have := HW.out; omega
  have hcell : w1.cell? ⟨b, 0, none⟩ = some v := by rw [cell_of_row w1 b 0 _ T (0, 0) h1]; rfl
  have H1 := Lib.hid h1
  have H2 := Lib.hid h2
  clear hb1 h1 h2
  go_wp2_with (at_builtin; refine wpList_append_where rfl (.tmp 15) (.tmp 16) 48 9 rfl (b + 1) 5 i0 Try.underlying48 Try.underlying9 hi0 hz0 hz1 hz2 _ _ _ rfl H2.out (bs d) rfl ?c3 ?c4 ?c5 ?_)
  case c3 => unfold maxLen; rw [hds]; omega
  case c4 => rw [hds]; omega
  case c5 => exact hbl
  intro v' w2 hown2 hg2 hwh
  have hown3 : w2.ownsRow (b + 1) 5 1 v' (l.length + d.length) (u8s l ++ u8s d) := by rw [← hds]; exact hown2
  obtain ⟨hce, hf, hpp, hss⟩ := put_step H1.out H2.out hg2 hown3 hwh
  have HPP := Lib.hid hpp
  have HSS := Lib.hid (HS1.out.trans hss)
  obtain ⟨A', c', rfl, _, _⟩ := Rd.of_own hown2
  clear hcell hown2 hown3 hg2 hpp hss hwh
  go_wp2
  refine bodyPost_end (results_none rfl _ _ _) rfl ?_
  exact ⟨rfl, HPP.out, HSS.out⟩

set_option maxRecDepth 100000 in
set_option maxHeartbeats 2000000 in
theorem pnats_any (zs : List Int) (A : Option Addr) (n c : Nat) (hn : zs.length = n) (hle : n ≤ 1000000) (hz : ∀ z ∈ zs, z ≤ 9223372036854775807) (w : World) (hr : Rd w A (zs.map (Value.int .i64))) (b : Nat) (T : TypeId) (l : List UInt8) (hp : Par w b T l) (hl : l.length ≤ 1000000000000) :
    Calls Try.prog 22 #[.pointer (some ⟨b, 0, none⟩), .slice A n c] w fun e w' => e = .returned (.tuple #[]) ∧ Par w' b T (l ++ (natsR zs).1) ∧ Stp b w w' := by
  obtain ⟨i0, hi0, hz0, hz1, hz2⟩ := info_parts info_u8
  obtain ⟨d, hd⟩ : ∃ d, (natsR zs).1 = d := ⟨_, rfl⟩
  have hdl : d.length ≤ 10000000 := by rw [← hd]; exact natsR_len9 zs (by omega) hz
  have hds := bs_size d
  have hC : Hid (∀ w, Rd w A (zs.map (Value.int .i64)) → Calls Try.prog 38 #[.slice A n c] w fun e w' => ∃ x, e = .returned (.tuple #[.string (bs d), .int .i64 x]) ∧ Below w.heap.size w w') := by
    show ∀ w, _
    exact fun w hr => (V1.nats_any A n c zs w hr hn hle hz).mono fun e w' ⟨he, hb⟩ => ⟨(natsR zs).2, by rw [he, ← hd], hb⟩
  rw [hd]
  clear hd
  have HP := Lib.hid hp
  have HW := Lib.hid hp.lt
  have HRD := Lib.hid hr
  clear hp hr
  go_enter Try.func22, Try.ntmps22
  go_wp2_with fail
  refine (hC.out _ HRD.out).mono ?_
  rintro e w1 ⟨x, rfl, hb1⟩
  obtain ⟨v, h1, h2⟩ := HP.out.keep hb1
  have HS1 := Lib.hid (Stp.of (b := b) hb1 HW.out)
  have hbl : b + 1 ≤ w1.heap.size := by have := hb1.size; have := HW.out; omega
  have hcell : w1.cell? ⟨b, 0, none⟩ = some v := by rw [cell_of_row w1 b 0 _ T (0, 0) h1]; rfl
  have H1 := Lib.hid h1
  have H2 := Lib.hid h2
  clear hb1 h1 h2
  go_wp2_with (at_builtin; refine wpList_append_where rfl (.tmp 15) (.tmp 16) 48 9 rfl (b + 1) 5 i0 Try.underlying48 Try.underlying9 hi0 hz0 hz1 hz2 _ _ _ rfl H2.out (bs d) rfl ?c3 ?c4 ?c5 ?_)
  case c3 => unfold maxLen; rw [hds]; omega
  case c4 => rw [hds]; omega
  case c5 => exact hbl
  intro v' w2 hown2 hg2 hwh
  have hown3 : w2.ownsRow (b + 1) 5 1 v' (l.length + d.length) (u8s l ++ u8s d) := by rw [← hds]; exact hown2
  obtain ⟨hce, hf, hpp, hss⟩ := put_step H1.out H2.out hg2 hown3 hwh
  have HPP := Lib.hid hpp
  have HSS := Lib.hid (HS1.out.trans hss)
  obtain ⟨A', c', rfl, _, _⟩ := Rd.of_own hown2
  clear hcell hown2 hown3 hg2 hpp hss hwh
  go_wp2
  refine bodyPost_end (results_none rfl _ _ _) rfl ?_
  exact ⟨rfl, HPP.out, HSS.out⟩

set_option maxRecDepth 100000 in
set_option maxHeartbeats 2000000 in
theorem ptext_any (y : List UInt8) (hy : y.length ≤ 1000000) (w : World) (b : Nat) (T : TypeId) (l : List UInt8) (hp : Par w b T l) (hl : l.length ≤ 1000000000000) :
    Calls Try.prog 41 #[.pointer (some ⟨b, 0, none⟩), .string (bs y)] w fun e w' => e = .returned (.tuple #[]) ∧ Par w' b T (l ++ bytesB y) ∧ Stp b w w' := by
  obtain ⟨i0, hi0, hz0, hz1, hz2⟩ := info_parts info_u8
  obtain ⟨d, hd⟩ : ∃ d, bytesB y = d := ⟨_, rfl⟩
  have hdl : d.length ≤ 1000009 := by rw [← hd]; exact bytesB_len9 hy
  have hds := bs_size d
  have hC : Hid (∀ w, Calls Try.prog 64 #[.string (bs y)] w fun e w' => e = .returned (.string (bs d)) ∧ Below w.heap.size w w') := by
    show ∀ w, _
    exact fun w => (V1.bytes_any (bs y) (by rw [bs_size]; omega) w).mono fun e w' ⟨he, hb⟩ => ⟨by rw [he, show (bs y).data.toList = y from rfl, hd], hb⟩
  rw [hd]
  clear hd
  have HP := Lib.hid hp
  have HW := Lib.hid hp.lt
  clear hp
  obtain ⟨v, h1, h2⟩ := HP.out
  have hcd : w.drew.cell? ⟨b, 0, none⟩ = some v := (cell_of_row w b 0 _ T (0, 0) h1).trans rfl
  have hd1 : Below w.heap.size w w.drew := (Below.refl _ _).drew
  have H1 := Lib.hid h1
  have H2 := Lib.hid h2
  have HD1 := Lib.hid hd1
  have CALL : Hid (Calls Try.prog 64 #[.string (bs y)] w.drew fun e w1 => e = .returned (.string (bs d)) ∧ w1.cell? ⟨b, 0, none⟩ = some v ∧ Hid (Stp b w w1) ∧ b + 1 ≤ w1.heap.size ∧ Hid (w1.ownsRow (b + 1) 5 1 v l.length (u8s l)) ∧ Hid (w1.heap[b]? = some (.cells #[v] T (0, 0)))) := (hC.out _).mono fun e w1 ⟨he, hb0⟩ => by
    have hb1 : Below w.heap.size w w1 := chain HD1.out hb0
    have hc1 := (hb1.block b HW.out).trans H1.out
    exact ⟨he, (cell_of_row w1 b 0 _ T (0, 0) hc1).trans rfl, Stp.of (b := b) hb1 HW.out, by have := hb1.size; have := HW.out; omega, row_keep H2.out hb1, hc1⟩
  clear h1 h2 hd1
  go_enter Try.func41, Try.ntmps41
  go_upto_region 0 with fail
  go_region_law (first
    | (go_simp; go_at_call 64; refine CALL.out.mono ?_; rintro e w1 ⟨rfl, hcell2, HS1, hbl, H2', hcell1⟩)
    | (refine step_append_string rfl (.tmp 8) (.tmp 10) 48 9 rfl (b + 1) 5 i0 Try.underlying48 Try.underlying9 hi0 hz0 hz1 hz2 _ _ _ rfl H2'.out (bs d) rfl (by unfold maxLen; omega) (by omega) (by assumption) ?_; intro v' w2 hown2 hg2 hwh; have hown3 : w2.ownsRow (b + 1) 5 1 v' (l.length + d.length) (u8s l ++ u8s d) := (hds ▸ hown2); have hps := put_step hcell1.out H2'.out hg2 hown3 hwh; obtain ⟨hce, hf, hpp, hss⟩ := hps; have HPP := Lib.hid hpp; have HSS := Lib.hid (HS1.out.trans hss); have hro := Rd.of_own hown3; clear hown2 hown3 hg2 hpp hss hwh; obtain ⟨A', c', rfl, _, _⟩ := hro))
  all_goals (go_wp2; refine bodyPost_end (results_none rfl _ _ _) rfl ?_; exact ⟨rfl, HPP.out, HSS.out⟩)

end Go.Proofs.Ytphnimmhjnhajaa.W8

