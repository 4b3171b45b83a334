/-
  Layer 3, walks: all frames taken, by an iterator.
-/
import Derived.RangeFuncNested
import Derived.RangeFuncBound
import Derived.RangeFuncCalls
import Derived.RangeFuncLeaves
import Derived.Shelf.Abstract
import Derived.Shelf.RegionOpen
import Derived.OwnWalkIn
import Derived.TacticsInMore
import Derived.LoopNIn
import Derived.LoopIn
import Derived.Maps.AppendAt
import Derived.Test.YtehclfpjccfmeaaF3b
namespace Go.Proofs.Ytehclfpjccfmeaa.F3
open Go.RowKit Go.Shelf Go.PlainAid V1 C2 M2 M3
set_option linter.unusedVariables false
attribute [local go_sem] Oper.semAt_some

/-- What a round keeps. -/
def Kp (n₀ Bt : Nat) (W W' : World) : Prop := Below n₀ W W' ∧ W'.cell? ⟨Bt, 0, none⟩ = W.cell? ⟨Bt, 0, none⟩
theorem Kp.t {n₀ Bt : Nat} {A B C : World} (h : Kp n₀ Bt A B) (k : Kp n₀ Bt B C) : Kp n₀ Bt A C := ⟨h.1.trans k.1, k.2.trans h.2⟩

abbrev Al := { x : Ev // x.1.1.length ≤ 1099511627776 ∧ x.1.2.length ≤ 1099511627776 }

def strLen : Value → Nat
  | .string s => s.size
  | _ => 0

theorem next_small {s : List UInt8} (h : s.length ≤ 1099511627776) : (next s).1.length ≤ 1099511627776 ∧ (next s).2.1.length ≤ 1099511627776 := by
  rcases next_cases s with ⟨e, h1, h2⟩ | ⟨l, r, h1, h2, h3⟩
  · rw [h1]; simp
  · rw [h1]
    have := congrArg List.length h2
    rw [List.length_append] at this
    exact ⟨by show l.length ≤ _; omega, by show r.length ≤ _; omega⟩

set_option maxRecDepth 100000 in
set_option maxHeartbeats 1000000 in
theorem frames1_in (n : Nat) (hn : 1 ≤ n) (l Bs Bt n₀ : Nat) (A : Option Addr) (c : Nat) (s : ByteArray) (hs : s.size ≤ 1099511627776) (J Jx : List Al → World → Prop)
    (w0 : World) (hw0 : w0.heap.size ≤ n₀) (hr : Rd w0 A (u32s tab))
    (W : World) (hJ : AbidesFrom W.heap.size J) (hn0 : n₀ ≤ W.heap.size)
    (hY : ∀ pre x W, J pre W → pre.length < s.size → YieldAt Fence.wide (n - 1) Try.prog l #[.agg #[.string (bs x.1.1.1), .string (bs x.1.1.2)], .int .i64 x.1.2] W fun e W' =>
      (e = .returned (.bool true) ∧ J (pre ++ [x]) W' ∧ Kp n₀ Bt W W') ∨ (e = .returned (.bool false) ∧ Jx (pre ++ [x]) W'))
    (hBs : W.cell? ⟨Bs, 0, none⟩ = some (.string s)) (hBt : W.cell? ⟨Bt, 0, none⟩ = some (.slice A 256 c)) (hb : Below n₀ w0 W) (h0 : J [] W) :
    CallsIn Fence.wide n Try.prog 33 #[.func (.yield l) #[] #[], .pointer (some ⟨Bs, 0, none⟩), .pointer (some ⟨Bt, 0, none⟩)] W fun e W' => (∃ v, e = .returned v) ∧
      ((∃ ys, ys.map (·.1) = evs s.data.toList ∧ J ys W') ∨ (∃ pre, pre.map (·.1) <+: evs s.data.toList ∧ Jx pre W')) := by
  have HR := Lib.hid hr
  clear hr
  refine callsIn_of_wp Try.func33 rfl trivial ?_ rfl
  simp only [Try.ntmps33, List.size_toArray, List.length_cons, List.length_nil, Nat.reduceAdd, Nat.reduceSub, Array.replicate_succ, Array.replicate_zero, List.push_toArray, List.append_toArray, List.nil_append, List.cons_append]
  gi_wp2
  gi_loopw [4] (fun v wr => ∃ (pre : List Al) (L : List UInt8), v = .string (bs L) ∧ pre.map (·.1) ++ evs L = evs s.data.toList ∧ L.length ≤ s.size ∧ J pre wr ∧ Below n₀ w0 wr ∧ wr.cell? ⟨Bt, 0, none⟩ = some (.slice A 256 c) ∧ W.heap.size ≤ wr.heap.size)
    (fun v _ => strLen v)
  case atStart =>
    exact ⟨[], s.data.toList, rfl, by simp, Nat.le_refl _, h0, hb, hBt, Nat.le_refl _⟩
  case round =>
    obtain ⟨pre, L, rfl, hx, hL, hJs, hbw, hct, hsz⟩ := hrel
    by_cases h0 : L = []
    · subst h0
      have hd : (bs []).toList.isEmpty = true := by rw [bs_toList]; rfl
      rw [evs_nil, List.append_nil] at hx
      gi_wp2
      go_end0
      exact ⟨⟨_, rfl⟩, .inl ⟨pre, hx, hJs⟩⟩
    have hd : (bs L).toList.isEmpty = false := by rw [bs_toList]; cases L <;> simp_all
    have hsm := next_small (s := L) (by omega)
    have hev := evs_len s.data.toList.length s.data.toList (Nat.le_refl _)
    have hpl : pre.length < s.size := by
      have h1 := congrArg List.length hx
      have h2 : 0 < (evs L).length := by
        by_cases h2 : (next L).2.2 = 0
        · rw [evs_on h0 h2]; simp
        · rw [evs_bad h0 h2]; simp
      have h3 : s.data.toList.length = s.size := rfl
      rw [List.length_append, List.length_map] at h1
      omega
    have HRW := Lib.hid (HR.out.below hbw hw0)
    have hBt := World.block_lt_of_cell? wr _ hct
    have HXX := Lib.hid hx
    have HLs : (bs L).size ≤ 9223372036854775807 := by rw [bs_size]; omega
    clear hx hev
    gi_wp2_with (fail)
    refine ⟨trivial, (callsIn_wide.2 (next_any A c (bs L) wr HRW.out HLs)).mono ?_⟩
    rw [bs_list]
    rintro e w1 ⟨rfl, hb1⟩
    have hJ1 : J pre w1 := hJ pre wr w1 none hJs (grown_of hb1 none) (fun r h => by cases h)
    have hb1' : Below n₀ w0 w1 := hbw.trans (hb1.mono (Nat.le_trans hn0 hsz))
    have hct1 : w1.cell? ⟨Bt, 0, none⟩ = some (.slice A 256 c) := (hb1.cell (p := ⟨Bt, 0, none⟩) hBt).trans hct
    have hsz1 : W.heap.size ≤ w1.heap.size := Nat.le_trans hsz hb1.size
    by_cases h2 : (next L).2.2 = 0
    · have HX1 := Lib.hid (evs_on h0 h2)
      have hlt := next_lt h2
      rw [h2]
      generalize hx0 : (next L).1 = x at hsm HX1
      generalize hr0 : (next L).2.1 = r at hsm HX1 hlt
      clear hx0 hr0 h2
      obtain ⟨fn, tmps, assign, body, hy, hR⟩ := hY pre (⟨((x, r), 0), hsm⟩ : Al) w1 hJ1 hpl
      dsimp only at hy
      gi_wp2
      refine hR.mono ?_
      rintro e W3 (⟨rfl, hJ3, hk3⟩ | ⟨rfl, hJx3⟩)
      · have hev2 : (pre ++ [(⟨((x, r), 0), hsm⟩ : Al)]).map (fun y : Al => y.1) ++ evs r = evs s.data.toList := by
          rw [← HXX.out, HX1.out]; simp
        have HEV := Lib.hid hev2
        clear hev2
        gi_wp2
        go_roundw
        case rel => exact ⟨_, r, rfl, HEV.out, by omega, hJ3, hb1'.trans hk3.1, hk3.2.trans hct1, Nat.le_trans hsz1 hk3.1.size⟩
        case measure => simp [strLen, bs_size]; omega
      · have hev2 : (pre ++ [(⟨((x, r), 0), hsm⟩ : Al)]).map (fun y : Al => y.1) <+: evs s.data.toList := ⟨evs r, by rw [← HXX.out, HX1.out]; simp⟩
        have HEV := Lib.hid hev2
        clear hev2
        gi_wp2
        refine bodyPost_ret (results_none rfl _ _ _) rfl ?_
        exact ⟨⟨_, rfl⟩, .inr ⟨_, HEV.out, hJx3⟩⟩
    · have HX1 := Lib.hid (evs_bad h0 h2)
      have he := next_err h2
      rw [he]
      generalize hx0 : (next L).2.2 = x at h2 HX1
      clear hx0 he hsm
      have hd2 : (x != (0 : Int)) = true := by rw [bne_iff_ne]; omega
      obtain ⟨fn, tmps, assign, body, hy, hR⟩ := hY pre (⟨(([], []), x), ⟨by simp, by simp⟩⟩ : Al) w1 hJ1 hpl
      dsimp only at hy
      have hev2 : (pre ++ [(⟨(([], []), x), ⟨by simp, by simp⟩⟩ : Al)]).map (fun y : Al => y.1) = evs s.data.toList := by
        rw [← HXX.out, HX1.out]; simp
      have HEV := Lib.hid hev2
      clear hev2
      gi_wp2
      refine hR.mono ?_
      rintro e W3 (⟨rfl, hJ3, hk3⟩ | ⟨rfl, hJx3⟩)
      · gi_wp2
        refine bodyPost_ret (results_none rfl _ _ _) rfl ?_
        exact ⟨⟨_, rfl⟩, .inl ⟨_, HEV.out, hJ3⟩⟩
      · gi_wp2
        refine bodyPost_ret (results_none rfl _ _ _) rfl ?_
        exact ⟨⟨_, rfl⟩, .inr ⟨_, by rw [HEV.out]; exact List.prefix_refl _, hJx3⟩⟩

set_option maxHeartbeats 1000000 in
/-- frames: its two arguments are boxed; the function value captures the boxes. -/
theorem frames_in (n : Nat) (A : Option Addr) (m c : Nat) (s : ByteArray) (w : World) :
    CallsIn Fence.wide n Try.prog 29 #[.slice A m c, .string s] w fun e w' => e = .returned (.func (.func 33) #[] #[.pointer (some ⟨w.heap.size + 1, 0, none⟩), .pointer (some ⟨w.heap.size, 0, none⟩)]) ∧
      w' = (w.alloc (.cells #[.slice A m c] 23)).alloc (.cells #[.string s] 9) := by
  refine callsIn_of_wp Try.func29 rfl trivial ?_ rfl
  simp only [Try.ntmps29, List.size_toArray, List.length_cons, List.length_nil, Nat.reduceAdd, Nat.reduceSub, Array.replicate_succ, Array.replicate_zero, List.push_toArray, List.append_toArray, List.nil_append, List.cons_append]
  gi_wp2
  go_ret
  exact ⟨by simp, rfl⟩

theorem frames_stops (n : Nat) (hn : 1 ≤ n) (Bs Bt n₀ : Nat) (A : Option Addr) (c : Nat) (s : ByteArray) (hs : s.size ≤ 1099511627776)
    (w0 w : World) (hw0 : w0.heap.size ≤ n₀) (hr : Rd w0 A (u32s tab)) (hn0 : n₀ ≤ w.heap.size)
    (hBs : w.cell? ⟨Bs, 0, none⟩ = some (.string s)) (hBt : w.cell? ⟨Bt, 0, none⟩ = some (.slice A 256 c)) (hb : Below n₀ w0 w) :
    SeqStopsK Fence.wide n Try.prog 33 #[.pointer (some ⟨Bs, 0, none⟩), .pointer (some ⟨Bt, 0, none⟩)] (fun x : Al => #[.agg #[.string (bs x.1.1.1), .string (bs x.1.1.2)], .int .i64 x.1.2]) (Kp n₀ Bt)
      (fun ys => ys.map (·.1) = evs s.data.toList) (fun pre => pre.map (·.1) <+: evs s.data.toList) s.size w := fun l J Jx W hW hJ _ hY h0 =>
  frames1_in n hn l Bs Bt n₀ A c s hs J Jx w0 hw0 hr W hJ (Nat.le_trans hn0 hW.size) hY ((hW.cell (p := ⟨Bs, 0, none⟩) (World.block_lt_of_cell? _ _ hBs)).trans hBs)
    ((hW.cell (p := ⟨Bt, 0, none⟩) (World.block_lt_of_cell? _ _ hBt)).trans hBt) (hb.trans (hW.mono hn0)) h0

end Go.Proofs.Ytehclfpjccfmeaa.F3
