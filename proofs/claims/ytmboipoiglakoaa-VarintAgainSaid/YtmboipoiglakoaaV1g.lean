/-
  Layer 1, walks: lists of numbers, taken.
-/
import Derived.Test.YtmboipoiglakoaaV1f
namespace Go.Proofs.Ytmboipoiglakoaa.V1
open Go.RowKit Go.PlainAid

def ints (l : List Nat) : List Value := l.map fun (n : Nat) => Value.int .i64 (n : Int)
theorem ints_len (l : List Nat) : (ints l).length = l.length := by simp [ints]
theorem ints_snoc (l : List Nat) (n : Nat) : ints (l ++ [n]) = ints l ++ [Value.int .i64 (n : Int)] := by simp [ints]
theorem info_int : (Try.prog.info? 3).map (fun i => (i.zero, i.size, i.bytes)) = some (some (.int .i64 0), 1, 8) := by kernel_rfl

def TNRel (s : ByteArray) (m : Nat) (w : World) (v rest i : Value) (wr : World) : Prop :=
  ∃ (k : Nat) (acc : List Nat) (r : List UInt8), k ≤ m ∧ i = .int .i64 (k : Int) ∧ rest = .string (bs r) ∧ r.length ≤ s.size ∧ wr.ownsRow w.heap.size 3 1 v k (ints acc) ∧
    takeNats s.data.toList = takeMany (m - k) r acc ∧ Below w.heap.size w wr

theorem many_stop {l r : List UInt8} {m k : Nat} {acc : List Nat} {e : Int} (h : takeNats l = takeMany (m - k) r acc) (hk : k < m) (ht : take r = (0, [], e)) (he : e = 10 ∨ e = 11) :
    takeNats l = ([], [], e) := by
  rw [h, show m - k = (m - k - 1) + 1 by omega, takeMany, ht, if_pos (by simp; omega)]
theorem many_on {l r r' : List UInt8} {m k n : Nat} {acc : List Nat} (h : takeNats l = takeMany (m - k) r acc) (hk : k < m) (ht : take r = (n, r', 0)) :
    takeNats l = takeMany (m - (k + 1)) r' (acc ++ [n]) := by
  rw [h, show m - k = (m - (k + 1)) + 1 by omega, takeMany, ht, if_neg (by simp)]
theorem many_end {l r : List UInt8} {m : Nat} {acc : List Nat} (h : takeNats l = takeMany (m - m) r acc) : takeNats l = (acc, r, 0) := by
  rw [h, Nat.sub_self, takeMany]

def TNPost (s : ByteArray) (w : World) (e : Ending) (w' : World) : Prop :=
  ∃ v, e = .returned (.tuple #[v, .string (bs (takeNats s.data.toList).2.1), .int .i64 (takeNats s.data.toList).2.2]) ∧
    w'.ownsRow w.heap.size 3 1 v (takeNats s.data.toList).1.length (ints (takeNats s.data.toList).1) ∧ Below w.heap.size w w'

theorem TNPost.bad {s : ByteArray} {w w' : World} {er : Int} (h : takeNats s.data.toList = ([], [], er)) (hb : Below w.heap.size w w') :
    TNPost s w (.returned (.tuple #[.slice none 0 0, .string ⟨#[]⟩, .int .i64 er])) w' := by
  unfold TNPost
  rw [h]
  exact ⟨_, rfl, World.ownsRow_nil _ _ _ _, hb⟩
theorem TNPost.good {s : ByteArray} {w w' : World} {acc : List Nat} {r : List UInt8} {k : Nat} {v : Value} (h : takeNats s.data.toList = (acc, r, 0)) (ho : w'.ownsRow w.heap.size 3 1 v k (ints acc))
    (hb : Below w.heap.size w w') : TNPost s w (.returned (.tuple #[v, .string (bs r), .int .i64 0])) w' := by
  unfold TNPost
  rw [h]
  have hk : acc.length = k := by have := ho.1; rw [ints_len] at this; omega
  subst hk
  exact ⟨v, rfl, ho, hb⟩

theorem grown_of {w w' : World} (h : Below w.heap.size w w') (row : Option Nat) : w.grownBy w' row := ⟨h.os, h.tape, h.output, h.size, fun i hi _ => h.block i hi⟩
theorem own_keep {w w' : World} {B : Nat} {e : TypeId} {v : Value} {n : Nat} {xs : List Value} (h : w.ownsRow B e 1 v n xs) (hb : Below w.heap.size w w') : w'.ownsRow B e 1 v n xs :=
  h.kept (grown_of hb none) (by cases v.ownBlock <;> simp)

set_option maxRecDepth 100000 in
set_option maxHeartbeats 600000 in
theorem takeNats_any (s : ByteArray) (hs : s.size ≤ 9223372036854775807) (hc : (take s.data.toList).1 ≤ 1000000 ∨ s.size ≤ 1000000) (w : World) :
    Calls Try.prog 25 #[.string s] w (TNPost s w) := by
  obtain ⟨i0, hi0, hz0, hz1, hz2⟩ := info_parts info_int
  rcases take_shape s.data.toList with ⟨m, r0, ht, hm, hr0⟩ | ⟨er, ht, her⟩
  · have HT := Lib.hid ht
    have hl0 : s.data.toList.length = s.size := rfl
    rw [hl0] at hr0
    have hsr : (bs r0).size ≤ 9223372036854775807 := by rw [bs_size]; omega
    have hc2 : m ≤ 1000000 ∨ s.size ≤ 1000000 := by rw [ht] at hc; exact hc
    clear ht hl0 hc
    by_cases hlt : (bs r0).size < m
    · have hfin : takeNats s.data.toList = ([], [], 10) := by
        unfold takeNats; rw [HT.out]; rw [bs_size] at hlt; simp [hlt]
      have HF := Lib.hid hfin
      clear hfin hc2
      go_enter Try.func25, Try.ntmps25
      go_wp2_with fail
      refine (take_as HT.out (by omega) _).mono ?_
      rintro e w1 ⟨rfl, hb⟩
      go_wp2
      go_ret3
      exact TNPost.bad HF.out hb
    · have hfin : takeNats s.data.toList = takeMany (m - 0) r0 [] := by
        unfold takeNats; rw [HT.out]; rw [bs_size] at hlt; simp [hlt]
      have HF := Lib.hid hfin
      have hm2 : m ≤ 1000000 := by rw [bs_size] at hlt; omega
      clear hc2
      clear hfin
      go_enter Try.func25, Try.ntmps25
      go_wp2_with fail
      refine (take_as HT.out (by omega) _).mono ?_
      rintro e w1 ⟨rfl, hb⟩
      go_wp2
      go_loopw [2, 3, 21] (fun v rest i wr => TNRel s m w v rest i wr) (fun v rest i _ => m - (intOf i).toNat)
      case atStart => exact ⟨0, [], r0, by omega, rfl, rfl, hr0, World.ownsRow_nil _ _ _ _, HF.out, hb⟩
      case round =>
        obtain ⟨k, acc, r, hk, rfl, rfl, hr, ho, htn, hbw⟩ := hrel
        have HO := Lib.hid ho
        have HTN := Lib.hid htn
        clear htn HF
        by_cases hkm : k < m
        · rcases take_shape r with ⟨n, r2, ht2, hn2, hr2⟩ | ⟨er, ht2, her⟩
          · have HT2 := Lib.hid ht2
            have HON := Lib.hid (many_on HTN.out hkm ht2)
            clear ht2
            go_wp2_with fail
            refine (take_as (s := bs r) HT2.out (by rw [bs_size]; omega) _).mono ?_
            rintro e w2 ⟨rfl, hb2⟩
            have ho2 := own_keep HO.out hb2
            go_wp2_with (at_builtin; refine wpList_append_own _ rfl (.tmp 32) (.tmp 34) 33 rfl w.heap.size 3 i0 (.int .i64 0) 1 8 Try.underlying33 hi0 hz0 hz1 hz2 rfl (by decide) _ _ _ rfl (ho2.alloc _) ⟨w2.heap.size, 0, none⟩ 1 1 [.int .i64 (n : Int)] rfl rfl ?c1 ?c2 ?c3 ?c4 ?c5 ?_)
            case c1 => exact cell_one_new _ _ _
            case c2 => simp [Value.oneCell']
            case c3 => unfold maxLen; omega
            case c4 => omega
            case c5 => have := hbw.size; have := hb2.size; simp; omega
            intro v1 w3 hown1 hg1 _
            go_wp2
            go_roundw
            case rel =>
              refine ⟨k + 1, acc ++ [n], r2, by omega, by go_num, rfl, by omega, ?_, HON.out, ?_⟩
              · rw [ints_snoc]; exact hown1
              · have hbB : w.heap.size ≤ w2.heap.size := by have := hbw.size; have := hb2.size; omega
                exact ((hbw.trans (hb2.mono hbw.size)).alloc hbB _).grown hg1 (by simp; omega) (fun q hq => (ho2.lt q hq).1)
            case measure => simp [intOf]; omega
          · have HT2 := Lib.hid ht2
            have hne : (er != 0) = true := by rw [bne_iff_ne]; omega
            have HF2 := Lib.hid (many_stop HTN.out hkm ht2 her)
            clear ht2 her
            go_wp2_with fail
            refine (take_as (s := bs r) HT2.out (by rw [bs_size]; omega) _).mono ?_
            rintro e w2 ⟨rfl, hb2⟩
            go_wp2
            go_ret3
            exact TNPost.bad HF2.out (hbw.trans (hb2.mono hbw.size))
        · obtain rfl : k = m := by omega
          have HF2 := Lib.hid (many_end HTN.out)
          go_wp2
          go_ret3
          exact TNPost.good HF2.out HO.out hbw
  · have hfin : takeNats s.data.toList = ([], [], er) := by
      unfold takeNats; rw [ht]; rw [if_pos (by simp; omega)]
    have HF := Lib.hid hfin
    have HT := Lib.hid ht
    have hne : (er != 0) = true := by rw [bne_iff_ne]; omega
    clear hfin ht her hc
    go_enter Try.func25, Try.ntmps25
    go_wp2_with fail
    refine (take_as HT.out (by omega) _).mono ?_
    rintro e w1 ⟨rfl, hb⟩
    go_wp2
    go_ret3
    exact TNPost.bad HF.out hb

set_option maxRecDepth 100000 in
set_option maxHeartbeats 600000 in
theorem refTakeNats_any (s : ByteArray) (hs : s.size ≤ 9223372036854775807) (hc : (take s.data.toList).1 ≤ 1000000 ∨ s.size ≤ 1000000) (w : World) :
    Calls Try.prog 26 #[.string s] w (TNPost s w) := by
  obtain ⟨i0, hi0, hz0, hz1, hz2⟩ := info_parts info_int
  rcases take_shape s.data.toList with ⟨m, r0, ht, hm, hr0⟩ | ⟨er, ht, her⟩
  · have HT := Lib.hid ht
    have hl0 : s.data.toList.length = s.size := rfl
    rw [hl0] at hr0
    have hsr : (bs r0).size ≤ 9223372036854775807 := by rw [bs_size]; omega
    have hc2 : m ≤ 1000000 ∨ s.size ≤ 1000000 := by rw [ht] at hc; exact hc
    clear ht hl0 hc
    by_cases hlt : (bs r0).size < m
    · have hfin : takeNats s.data.toList = ([], [], 10) := by
        unfold takeNats; rw [HT.out]; rw [bs_size] at hlt; simp [hlt]
      have HF := Lib.hid hfin
      clear hfin hc2
      go_enter Try.func26, Try.ntmps26
      go_wp2_with fail
      refine (refTake_as HT.out (by omega) _).mono ?_
      rintro e w1 ⟨rfl, hb⟩
      go_wp2
      go_ret3
      exact TNPost.bad HF.out hb
    · have hfin : takeNats s.data.toList = takeMany (m - 0) r0 [] := by
        unfold takeNats; rw [HT.out]; rw [bs_size] at hlt; simp [hlt]
      have HF := Lib.hid hfin
      have hm2 : m ≤ 1000000 := by rw [bs_size] at hlt; omega
      clear hc2
      clear hfin
      go_enter Try.func26, Try.ntmps26
      go_wp2_with fail
      refine (refTake_as HT.out (by omega) _).mono ?_
      rintro e w1 ⟨rfl, hb⟩
      go_wp2
      go_loopw [6, 8, 9] (fun rest v i wr => TNRel s m w v rest i wr) (fun rest v i _ => m - (intOf i).toNat)
      case atStart => exact ⟨0, [], r0, by omega, rfl, rfl, hr0, World.ownsRow_nil _ _ _ _, HF.out, hb⟩
      case round =>
        obtain ⟨k, acc, r, hk, rfl, rfl, hr, ho, htn, hbw⟩ := hrel
        have HO := Lib.hid ho
        have HTN := Lib.hid htn
        clear htn HF
        by_cases hkm : k < m
        · rcases take_shape r with ⟨n, r2, ht2, hn2, hr2⟩ | ⟨er, ht2, her⟩
          · have HT2 := Lib.hid ht2
            have HON := Lib.hid (many_on HTN.out hkm ht2)
            clear ht2
            go_wp2_with fail
            refine (refTake_as (s := bs r) HT2.out (by rw [bs_size]; omega) _).mono ?_
            rintro e w2 ⟨rfl, hb2⟩
            have ho2 := own_keep HO.out hb2
            go_wp2_with (at_builtin; refine wpList_append_own _ rfl (.tmp 40) (.tmp 42) 33 rfl w.heap.size 3 i0 (.int .i64 0) 1 8 Try.underlying33 hi0 hz0 hz1 hz2 rfl (by decide) _ _ _ rfl (ho2.alloc _) ⟨w2.heap.size, 0, none⟩ 1 1 [.int .i64 (n : Int)] rfl rfl ?c1 ?c2 ?c3 ?c4 ?c5 ?_)
            case c1 => exact cell_one_new _ _ _
            case c2 => simp [Value.oneCell']
            case c3 => unfold maxLen; omega
            case c4 => omega
            case c5 => have := hbw.size; have := hb2.size; simp; omega
            intro v1 w3 hown1 hg1 _
            go_wp2
            go_roundw
            case rel =>
              refine ⟨k + 1, acc ++ [n], r2, by omega, by go_num, rfl, by omega, ?_, HON.out, ?_⟩
              · rw [ints_snoc]; exact hown1
              · have hbB : w.heap.size ≤ w2.heap.size := by have := hbw.size; have := hb2.size; omega
                exact ((hbw.trans (hb2.mono hbw.size)).alloc hbB _).grown hg1 (by simp; omega) (fun q hq => (ho2.lt q hq).1)
            case measure => simp [intOf]; omega
          · have HT2 := Lib.hid ht2
            have hne : (er != 0) = true := by rw [bne_iff_ne]; omega
            have HF2 := Lib.hid (many_stop HTN.out hkm ht2 her)
            clear ht2 her
            go_wp2_with fail
            refine (refTake_as (s := bs r) HT2.out (by rw [bs_size]; omega) _).mono ?_
            rintro e w2 ⟨rfl, hb2⟩
            go_wp2
            go_ret3
            exact TNPost.bad HF2.out (hbw.trans (hb2.mono hbw.size))
        · obtain rfl : k = m := by omega
          have HF2 := Lib.hid (many_end HTN.out)
          go_wp2
          go_ret3
          exact TNPost.good HF2.out HO.out hbw
  · have hfin : takeNats s.data.toList = ([], [], er) := by
      unfold takeNats; rw [ht]; rw [if_pos (by simp; omega)]
    have HF := Lib.hid hfin
    have HT := Lib.hid ht
    have hne : (er != 0) = true := by rw [bne_iff_ne]; omega
    clear hfin ht her hc
    go_enter Try.func26, Try.ntmps26
    go_wp2_with fail
    refine (refTake_as HT.out (by omega) _).mono ?_
    rintro e w1 ⟨rfl, hb⟩
    go_wp2
    go_ret3
    exact TNPost.bad HF.out hb

end Go.Proofs.Ytmboipoiglakoaa.V1
