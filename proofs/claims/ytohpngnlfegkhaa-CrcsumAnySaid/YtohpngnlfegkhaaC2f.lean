/-
  Layer 2: the laws of sums.
-/
import Derived.Test.YtohpngnlfegkhaaC2e
namespace Go.Proofs.Ytohpngnlfegkhaa.C2
open Go.RowKit Go.PlainAid M2
set_option linter.unusedVariables false

theorem wf_u32 {z : Int} (h : (Lit.int .u32 z).wf = true) : 0 ≤ z ∧ z ≤ 4294967295 := by
  simpa [Lit.wf, IntKind.min, IntKind.max, IntKind.signed, IntKind.bits] using h

/-- A row of numbers of 32 bits that came in. -/
theorem row_u32 {w : World} {a : Option Addr} {len cap : Nat} {zs : List Int} (h : IsRow .u32 w a len cap zs) :
    ∃ t : List Nat, Rd w a (u32s t) ∧ t.length = len ∧ ∀ x ∈ t, x < 4294967296 := by
  obtain ⟨hr, hl, hw⟩ := Rd.of_row h
  refine ⟨(zs.take len).map Int.toNat, ?_, by simpa using hl, ?_⟩
  · have e : u32s ((zs.take len).map Int.toNat) = (zs.take len).map (Value.int .u32) := by
      unfold u32s
      rw [List.map_map]
      apply List.map_congr_left
      intro z hz
      have := wf_u32 (hw z hz)
      show Value.int .u32 ((z.toNat : Nat) : Int) = Value.int .u32 z
      congr 1; omega
    rw [e]; exact hr
  · intro x hx
    obtain ⟨z, hz, rfl⟩ := List.mem_map.1 hx
    have := wf_u32 (hw z hz)
    omega

theorem plain_as (s : ByteArray) (w : World) (hs : s.size ≤ 9223372036854775807) :
    Calls Try.prog 14 #[.string s] w fun e w' => e = .returned (.int .u32 (crc s.data.toList : Int)) ∧ w = w' := plain_any s w hs

set_option maxRecDepth 100000 in
set_option maxHeartbeats 400000 in
theorem lawSums (w : World) (a : Option Addr) (len cap : Nat) (zs : List Int) (hrow : IsRow .u32 w a len cap zs) (_ : cap * 4 ≤ 140737488351232) (s : ByteArray) (hz : s.size ≤ 140737488351232) :
    Calls Try.prog 4 #[.slice a len cap, .string s] w fun e w' => e = .returned (.bool true) ∧ Below w.heap.size w w' := by
  obtain ⟨t, hr, hl, ht⟩ := row_u32 hrow
  clear hrow
  by_cases hbig : 2000 < s.size
  · go_enter Try.func4, Try.ntmps4
    go_wp2_with fail
    refine (awake_any _).mono ?_
    rintro e w1 ⟨rfl, hb1⟩
    go_wp2
    go_ret
    exact ⟨rfl, hb1⟩
  · have HR := Lib.hid hr
    have HL := Lib.hid hl
    have HT := Lib.hid ht
    clear hr hl ht
    go_enter Try.func4, Try.ntmps4
    go_wp2_with fail
    refine (sum_any a len cap t s _ HR.out HL.out HT.out (by omega)).mono ?_
    rintro e w1 ⟨rfl, rfl⟩
    go_wp2_with fail
    refine (refSum_any a len cap t s _ HR.out HL.out HT.out (by omega)).mono ?_
    rintro e w1 ⟨rfl, rfl⟩
    go_wp2_with fail
    refine (table_any _).mono ?_
    rintro e w1 ⟨A, rfl, ha, hb1⟩
    have HA := Lib.hid ha
    clear ha
    go_wp2_with fail
    refine (sum_tab s HA.out (by omega)).mono ?_
    rintro e w2 ⟨rfl, rfl⟩
    go_wp2_with fail
    refine (awake_any _).mono ?_
    rintro e w3 ⟨rfl, hb3⟩
    go_wp2_with fail
    refine (plain_as s _ (by omega)).mono ?_
    rintro e w4 ⟨rfl, rfl⟩
    have s1 := hb1.size
    go_wp2
    go_ret
    exact ⟨by simp, hb1.trans (hb3.mono (by omega))⟩

/-- The table that a few numbers make. -/
def few (f : List Nat) (k : Nat) : List Nat := (List.range k).map fun i => (f.getD (i % f.length) 0 + i) % 4294967296
theorem few_snoc (f : List Nat) (k : Nat) : few f (k + 1) = few f k ++ [(f.getD (k % f.length) 0 + k) % 4294967296] := by
  simp [few, List.range_succ]
theorem few_len (f : List Nat) (k : Nat) : (few f k).length = k := by simp [few]
theorem few_lt (f : List Nat) (k : Nat) : ∀ x ∈ few f k, x < 4294967296 := by
  intro x hx
  obtain ⟨i, _, rfl⟩ := List.mem_map.1 hx
  exact Nat.mod_lt _ (by omega)
theorem u32s_snoc (l : List Nat) (n : Nat) : u32s (l ++ [n]) = u32s l ++ [.int .u32 (n : Int)] := by simp [u32s]
/-- WHAT THE LOOP OF CrcsumAny KEEPS. -/
def RefTabRel' (t : List Nat) (B : Nat) (w : World) (v i : Value) (wr : World) : Prop :=
  ∃ k : Nat, k ≤ 256 ∧ i = .int .i64 (k : Int) ∧ wr.ownsRow B 24 1 v k (u32s (few t k)) ∧ Below B w wr

set_option maxRecDepth 100000 in
set_option maxHeartbeats 1000000 in
theorem lawAny (w : World) (a : Option Addr) (len cap : Nat) (zs : List Int) (hrow : IsRow .u32 w a len cap zs) (hy : cap * 4 ≤ 140737488351232) (s : ByteArray) (hz : s.size ≤ 140737488351232) :
    Calls Try.prog 5 #[.slice a len cap, .string s] w fun e w' => e = .returned (.bool true) ∧ Below w.heap.size w w' := by
  have hlc : len ≤ cap := by
    rcases hrow with ⟨_, h, _⟩ | ⟨_, _, h, _⟩ <;> omega
  obtain ⟨t, hr, hl, ht⟩ := row_u32 hrow
  clear hrow
  by_cases h0 : len = 0
  · have hd : ((len : Int) == 0) = true := by simp; omega
    clear h0 hl
    go_enter Try.func5, Try.ntmps5
    go_wp2_with fail
    refine (awake_any _).mono ?_
    rintro e w1 ⟨rfl, hb1⟩
    go_wp2
    go_ret
    exact ⟨rfl, hb1⟩
  · have hd : ((len : Int) == 0) = false := by simp; omega
    by_cases hbig : 500 < s.size
    · clear h0 hl
      go_enter Try.func5, Try.ntmps5
      go_wp2_with fail
      refine (awake_any _).mono ?_
      rintro e w1 ⟨rfl, hb1⟩
      go_wp2
      go_ret
      exact ⟨rfl, hb1⟩
    · obtain ⟨i0, hi0, hz0, hz1, hz2⟩ := info_parts info_u32
      have hpos : 0 < len := by omega
      have HR := Lib.hid hr
      have HL := Lib.hid hl
      have HT := Lib.hid ht
      have H0 : RefTabRel' t w.heap.size w (.slice none 0 0) (.int .i64 0) w := ⟨0, by omega, rfl, World.ownsRow_nil _ _ _ _, Below.refl _ _⟩
      have H1 := Lib.hid H0
      clear hr hl ht h0 H0
      go_enter Try.func5, Try.ntmps5
      go_wp2
      go_loopw [5, 6] (fun v i wr => RefTabRel' t w.heap.size w v i wr) (fun _ i _ => 256 - (intOf i).toNat)
      case atStart => exact H1.out
      case round =>
        obtain ⟨k, hk, rfl, ho, hb⟩ := hrel
        clear H1
        have hB : w.heap.size ≤ wr.heap.size := hb.size
        by_cases hlt : k < 256
        · have hm : k % len < len := Nat.mod_lt _ hpos
          obtain ⟨b, off, rfl, hbl, hc⟩ := look' (HR.out.keep hb) (k := k % len) (by rw [HL.out]; exact hm)
          have hg := getD_lt HT.out (k % len)
          have HS := Lib.hid (few_snoc t k)
          have he : t.getD (k % len) 0 = t.getD (k % t.length) 0 := by rw [HL.out]
          have HE := Lib.hid he
          clear he
          generalize t.getD (k % len) 0 = x at hc hg HE
          go_wp2_with (at_builtin; refine wpList_append_own _ rfl (.tmp 24) (.tmp 35) 22 rfl w.heap.size 24 i0 (.int .u32 0) 1 4 Try.underlying22 hi0 hz0 hz1 hz2 rfl (by decide) _ _ _ rfl (ho.alloc _) ⟨wr.heap.size, 0, none⟩ 1 1 [.int .u32 (((x : Int) + (k : Int)) % 4294967296)] rfl rfl (cell_one_new _ _ _) ?c2 ?c3 ?c4 ?c5 ?_)
          case c2 => simp [Value.oneCell']
          case c3 => unfold maxLen; omega
          case c4 => omega
          case c5 => first | omega | (simp; done) | (simp; omega)
          intro v1 w1 hown1 hg1 _
          go_wp2
          go_roundw
          case rel =>
            refine ⟨k + 1, by omega, by go_num, ?_, (hb.alloc hB _).grown hg1 (by simp; omega) (fun q hq => (ho.lt q hq).1)⟩
            rw [HS.out, ← HE.out, u32s_snoc]
            rw [show (((x : Int) + (k : Int)) % 4294967296) = (((x + k) % 4294967296 : Nat) : Int) by simp] at hown1
            exact hown1
          case measure => simp [intOf]; omega
        · obtain rfl : k = 256 := by omega
          obtain ⟨A, c, rfl, hr2, _⟩ := Rd.of_own ho
          have HR2 := Lib.hid hr2
          have hR : ∃ x, sumR (few t 256) s.data.toList = (x, 0) := by
            unfold sumR; rw [if_neg (by rw [few_len]; simp)]; exact ⟨_, rfl⟩
          obtain ⟨x, hx⟩ := hR
          have HX := Lib.hid hx
          clear hr2 ho hx
          go_wp2_with fail
          refine (sum_as HX.out HR2.out (few_len _ _) (few_lt _ _) (by omega)).mono ?_
          rintro e w1 ⟨rfl, rfl⟩
          go_wp2_with fail
          refine (refSum_as HX.out HR2.out (few_len _ _) (few_lt _ _) (by omega)).mono ?_
          rintro e w1 ⟨rfl, rfl⟩
          go_wp2_with fail
          refine (awake_any _).mono ?_
          rintro e w3 ⟨rfl, hb3⟩
          go_wp2
          go_ret
          exact ⟨by simp, hb.trans (hb3.mono (by omega))⟩

end Go.Proofs.Ytohpngnlfegkhaa.C2
