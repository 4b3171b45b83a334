/-
  Layer 8, walks of the program: a group taken from the head of bytes.
-/
import Derived.Test.YtphnimmhjnhajaaKW10m
namespace Go.Proofs.Ytphnimmhjnhajaa.W8
open Go.RowKit Go.PlainAid M8 V1
set_option linter.unusedVariables false

/-- A group that was taken, its lists in rows of ours. -/
structure GrpGood (w : World) (B : Nat) (G : GrpR) : Prop where
  deps : w.ownsRow B 3 1 (.slice G.dA G.deps.length G.dc) G.deps.length (G.deps.map (Value.int .i64))
  ops : w.ownsRow B 44 18 (.slice G.oA G.xs.length G.oc) G.xs.length (G.xs.flatMap OpR.cells)
  each : ∀ x ∈ G.xs, OpGood w B x
  stD : stampD (G.t, G.r)
  nD : natD G.n
  utD : stampD (G.ut, G.ur)
  depsR : ∀ z ∈ G.deps, in64 z
  depsL : G.deps.length ≤ 1000000
  opsL : G.xs.length ≤ 200
/-- What the taking of a group tells. -/
def RGrpE (r : Nat) (s : List UInt8) (bad : Bool) (w : World) (e : Ending) (w' : World) : Prop :=
  ∃ (G : GrpR) (s' : List UInt8) (bad' : Bool), e = .returned (.agg G.cells.toArray) ∧ GrpGood w' w.heap.size G ∧ Rdr w' r s' bad' ∧ RP pGrpX s bad G.g s' bad' ∧ Only r w w'
theorem info_grp : (Try.prog.info? 27).map (fun i => (i.zero, i.size)) = some (some (.agg noGrp.toArray), 7) := by kernel_rfl
theorem nogrp_size (G : GrpR) : noGrp.toArray.size = G.cells.toArray.size := rfl
theorem gcells_one (G : GrpR) : G.cells.toArray.all (·.oneCell') = true := all_oneCell_toArray (fun v hv => by
  simp only [GrpR.cells, List.mem_cons, List.not_mem_nil, or_false] at hv
  rcases hv with rfl | rfl | rfl | rfl | rfl | rfl | rfl <;> rfl)
theorem st_grp {ops : Array Oper} {rest : List Oper} {op : Oper} {a : Act} {w : World} {Q : Exit → Act → World → Prop} (hgd : op.guard = none) (x y : Operand) (ho : op.op = .store 27 x y) (b : Nat) (G : GrpR) (hx : a.eval x = .pointer (some ⟨b, 0, none⟩)) (hy : a.eval y = .agg G.cells.toArray)
    (h0 : w.heap[b]? = some (.cells noGrp.toArray 27 (0, 0))) (h : wpList Try.prog ops Q rest (a.put op.dst undef) (w.setCells b 0 G.cells)) : wpList Try.prog ops Q (op :: rest) a w := by
  have ht := there_block h0
  rw [nogrp_size G] at ht
  have hi : (Try.prog.info? 27).map (·.size) = some G.cells.toArray.size := (zero_of_info info_grp).2
  exact wpList_store_mid hgd 27 x y ho b 0 G.cells.toArray hx hy ht hi (gcells_one G) h
theorem GrpGood.other {w w' : World} {B b : Nat} {G : GrpR} (h : GrpGood w B G) (ho : Only b w w') {cs : Array Value} (hb : w.heap[b]? = some (.cells cs 27 (0, 0))) : GrpGood w' B G :=
  { h with deps := own_other h.deps ho hb (by decide), ops := own_other h.ops ho hb (by decide), each := fun x hx => { h.each x hx with dots := own_other (h.each x hx).dots ho hb (by decide), elems := own_other (h.each x hx).elems ho hb (by decide) } }
theorem rgrp_end {r : Nat} {s : List UInt8} {bad : Bool} {w W5 : World} {G : GrpR} {s' : List UInt8} {b' : Bool} (h0 : W5.heap[w.heap.size]? = some (.cells noGrp.toArray 27 (0, 0))) (hr : Rdr W5 r s' b') (hg : GrpGood W5 w.heap.size G) (hp : RP pGrpX s bad G.g s' b') (ho : Only r w W5) (hne : w.heap.size ≠ r) :
    RGrpE r s bad w (.returned (.agg G.cells.toArray)) (W5.setCells w.heap.size 0 G.cells) := by
  have h1 := Only.sets (b := w.heap.size) G.cells 0 W5
  exact ⟨G, s', b', rfl, hg.other h1 h0, h1.box hr (Ne.symm hne), hp, ho.plus h1 (Nat.le_refl _)⟩
theorem grp_rp {s s1 s2 s3 s4 s5 : Bytes} {b b1 b2 b3 b4 b5 : Bool} {x u : Int × Int} {n : Int} {l : List Int} {os : List Opn} (h1 : RP pStamp s b x s1 b1) (h2 : RP pNat s1 b1 n s2 b2) (h3 : RP pNats s2 b2 l s3 b3) (h4 : RP pStamp s3 b3 u s4 b4) (h5 : RP (pListM 200 pOpX) s4 b4 os s5 b5) :
    RP pGrpX s b ⟨x.1, x.2, n, l, u.1, u.2, os⟩ s5 b5 := (h1.pair (h2.pair (h3.pair (h4.pair h5)))).map ofTup

set_option maxRecDepth 100000 in
set_option maxHeartbeats 16000000 in
theorem rgrp_any (r : Nat) (s : List UInt8) (bad : Bool) (hz : s.length ≤ 1000000) (w : World) (hr : Rdr w r s bad) : Calls Try.prog 15 #[.pointer (some ⟨r, 0, none⟩)] w (RGrpE r s bad w) := by
  have HLT := Lib.hid hr.lt
  have HR0 := Lib.hid (hr.keep (below_box (.cells noGrp.toArray 27)))
  have HZ := Lib.hid hz
  have HB0 := Lib.hid (heap_alloc_new w (.cells noGrp.toArray 27))
  have hrne : w.heap.size ≠ r := by have := hr.lt; omega
  have HO0 : Hid (Only r w (w.alloc (.cells noGrp.toArray 27))) := (Only.refl r w).alloc _
  obtain ⟨W0, hW0⟩ : ∃ W0, w.alloc (.cells noGrp.toArray 27) = W0 := ⟨_, rfl⟩
  rw [hW0] at HR0 HB0 HO0
  have HNE := Lib.hid hrne
  clear hr hz hrne
  go_enter Try.func15, Try.ntmps15
  have hWz : w.alloc (.cells #[.int .i64 0, .int .i64 0, .int .i64 0, .slice none 0 0, .int .i64 0, .int .i64 0, .slice none 0 0] 27) = W0 := hW0
  go_wp2_with fail
  refine (rstamp_any r s bad HZ.out _ HR0.out).mono ?_
  rintro e w1 ⟨x, s1, b1, rfl, hd1, hr1, hp1, ho1⟩
  have HD1 := Lib.hid hd1
  have HP1 := Lib.hid hp1
  have HR1 := Lib.hid hr1
  have HO1 := Lib.hid (HO0.out.trans ho1)
  have HB1 := Lib.hid (ho1.box HB0.out HNE.out)
  have HZ1 : Hid (s1.length ≤ 1000000) := Nat.le_trans hp1.2.2 HZ.out
  clear hd1 hp1 hr1 ho1 hW0 hWz
  go_wp2_with fail
  refine (rnat_any r s1 b1 HZ1.out _ HR1.out).mono ?_
  rintro e w2 ⟨n, s2, b2, rfl, hd2, hr2, hp2, ho2⟩
  have HD2 := Lib.hid hd2
  have HP2 := Lib.hid hp2
  have HR2 := Lib.hid hr2
  have HO2 := Lib.hid (HO1.out.trans ho2)
  have HB2 := Lib.hid (ho2.box HB1.out HNE.out)
  have HZ2 : Hid (s2.length ≤ 1000000) := Nat.le_trans hp2.2.2 HZ1.out
  clear hd2 hp2 hr2 ho2
  go_wp2_with fail
  refine (rnats_any r s2 b2 HZ2.out _ HR2.out).mono ?_
  rintro e w3 ⟨v, l, s3, b3, rfl, hown3, hl3, hll3, hr3, hp3, ho3⟩
  have HP3 := Lib.hid hp3
  have HR3 := Lib.hid hr3
  have HO3 := Lib.hid (HO2.out.trans ho3)
  have HB3 := Lib.hid (ho3.box HB2.out HNE.out)
  have HZ3 : Hid (s3.length ≤ 1000000) := Nat.le_trans hp3.2.2 HZ2.out
  have HL3 := Lib.hid hl3
  have HLL3 : Hid (l.length ≤ 1000000) := Nat.le_trans hll3 HZ2.out
  have HW3 : Hid (w3.ownsRow w.heap.size 3 1 v l.length (l.map (Value.int .i64))) := own_mono hown3 HO2.out.size
  obtain ⟨A1, cp1, rfl⟩ := own_form hown3
  clear hl3 hll3 hown3 hp3 hr3 ho3
  go_wp2_with fail
  refine (rstamp_any r s3 b3 HZ3.out _ HR3.out).mono ?_
  rintro e w4 ⟨u, s4, b4, rfl, hd4, hr4, hp4, ho4⟩
  have HD4 := Lib.hid hd4
  have HP4 := Lib.hid hp4
  have HR4 := Lib.hid hr4
  have HO4 := Lib.hid (HO3.out.trans ho4)
  have HB4 := Lib.hid (ho4.box HB3.out HNE.out)
  have HW4 := Lib.hid (own_only HW3.out ho4 HLT.out)
  have HZ4 : Hid (s4.length ≤ 1000000) := Nat.le_trans hp4.2.2 HZ3.out
  clear hd4 hp4 hr4 ho4
  go_wp2_with fail
  refine (rops_any r s4 b4 HZ4.out _ HR4.out).mono ?_
  rintro e w5 ⟨v5, xs, s5, b5, rfl, hown5, he5, hll5, hr5, hp5, ho5⟩
  have HR5 := Lib.hid hr5
  have HO5 := Lib.hid (HO4.out.trans ho5)
  have HB5 := Lib.hid (ho5.box HB4.out HNE.out)
  have HW5 := Lib.hid (own_only HW4.out ho5 HLT.out)
  have HV5 := Lib.hid (own_mono hown5 HO4.out.size)
  have HE5 : Hid (∀ x ∈ xs, OpGood w5 w.heap.size x) := fun x hx => (he5 x hx).mono HO4.out.size
  have HP5 := Lib.hid (grp_rp HP1.out HP2.out HP3.out HP4.out hp5)
  have HLL5 := Lib.hid hll5
  obtain ⟨A2, cp2, rfl⟩ := own_form hown5
  clear hll5 hown5 he5 hr5 hp5 ho5
  have HG : Hid (GrpGood w5 w.heap.size ⟨x.1, x.2, n, l, u.1, u.2, xs, A1, cp1, A2, cp2⟩) := ⟨HW5.out, HV5.out, HE5.out, HD1.out, HD2.out, HD4.out, HL3.out, HLL3.out, HLL5.out⟩
  have HEND := Lib.hid (rgrp_end (G := ⟨x.1, x.2, n, l, u.1, u.2, xs, A1, cp1, A2, cp2⟩) HB5.out HR5.out HG.out HP5.out HO5.out HNE.out)
  have hth := there_block HB5.out
  rw [nogrp_size ⟨x.1, x.2, n, l, u.1, u.2, xs, A1, cp1, A2, cp2⟩] at hth
  have HRG := Lib.hid (World.rangeAt_setCells_same w5 w.heap.size 0 (GrpR.cells ⟨x.1, x.2, n, l, u.1, u.2, xs, A1, cp1, A2, cp2⟩) hth)
  clear hth
  clear HG HP5 HV5 HE5 HW5 HP1 HP2 HP3 HP4 HD1 HD2 HD4 HR1 HR2 HR3 HR4 HR5 HO1 HO2 HO3 HO4 HO5 HB1 HB2 HB3 HB4 HW3 HW4
  obtain ⟨G, hG⟩ : ∃ G : GrpR, (⟨x.1, x.2, n, l, u.1, u.2, xs, A1, cp1, A2, cp2⟩ : GrpR) = G := ⟨_, rfl⟩
  have hcs : Value.agg #[.int .i64 x.1, .int .i64 x.2, .int .i64 n, .slice A1 l.length cp1, .int .i64 u.1, .int .i64 u.2, .slice A2 xs.length cp2] = .agg G.cells.toArray := by rw [← hG]; rfl
  rw [hG] at HEND HRG
  have HCS := Lib.hid hcs
  obtain ⟨W6, hW6⟩ : ∃ W6, w5.setCells w.heap.size 0 G.cells = W6 := ⟨_, rfl⟩
  rw [hW6] at HRG HEND
  have HW6 := Lib.hid hW6
  clear hcs hG hW6
  go_simp
  iterate 4 go_step
  refine st_grp rfl (.tmp 2) (.tmp 15) rfl w.heap.size G rfl HCS.out HB5.out ?_
  rw [HW6.out]
  clear HW6 HCS HB5
  go_wp2
  exact bodyPost_ret (results_row rfl _ _ _ w.heap.size 0 G.cells _ rfl HRG.out Try.underlying27 rfl (zero_of_info info_grp).2) rfl HEND.out

end Go.Proofs.Ytphnimmhjnhajaa.W8

