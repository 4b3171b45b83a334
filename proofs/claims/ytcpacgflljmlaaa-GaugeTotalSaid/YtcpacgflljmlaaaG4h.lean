/-
  Layer 4, walks: the library's stable sort.
-/
import Derived.Test.YtcpacgflljmlaaaM4d
import Derived.Test.YtcpacgflljmlaaaG4g
namespace Go.Proofs.Ytcpacgflljmlaaa.G4
open Go.Shelf Go.RowKit Go.Lib Go.Sort
set_option linter.unusedVariables false
variable {α : Type} [Inhabited α]

/-- What is known of the row in the midst. -/
def Mid (lt : α → α → Bool) (pos : α → Nat) (d dk : Array α) (B bs k a : Nat) : Prop :=
  a = B * k ∧ PermIn 0 d.size d dk ∧ Done lt pos B k dk ∧ Todo lt pos bs a d.size dk
theorem Mid.size {lt : α → α → Bool} {pos : α → Nat} {d dk : Array α} {B bs k a : Nat} (h : Mid lt pos d dk B bs k a) : dk.size = d.size := h.2.1.1
theorem Mid.step {lt : α → α → Bool} {pos : α → Nat} {d dk d' : Array α} {B bs c k a : Nat} (h : Mid lt pos d dk B bs k a) (hB : B = bs * c) (hn : a + B ≤ d.size)
    (hp : ∀ i, a ≤ i → i < a + B → a ≤ pos dk[i]! ∧ pos dk[i]! < a + B)
    (p : PermIn a (a + B) dk d') (q : SortedIn (ltR lt pos) a (a + B) d') : Mid lt pos d d' B bs (k + 1) (a + B) := by
  obtain ⟨rfl, h2, h3, h4⟩ := h
  obtain ⟨x, y⟩ := done_step hB h3 h4 hn h2.1.symm hp p q
  have e : B * (k + 1) = B * k + B := Nat.mul_succ B k
  rw [e] at y
  exact ⟨e.symm, permIn_trans _ _ _ _ _ h2 (permIn_mono _ _ _ _ _ _ (Nat.zero_le _) hn (by rw [h2.1]; exact Nat.le_refl _) p), x, y⟩
theorem Mid.last {lt : α → α → Bool} {pos : α → Nat} {d dk d' : Array α} {B bs k a : Nat} (h : Mid lt pos d dk B bs k a) (ha : a ≤ d.size) (hn : d.size < a + B)
    (p : PermIn a d.size dk d') (q : a < d.size → Good lt pos a d.size d') : PermIn 0 d.size d d' ∧ Todo lt pos B 0 d.size d' := by
  obtain ⟨rfl, h2, h3, h4⟩ := h
  exact ⟨permIn_trans _ _ _ _ _ h2 (permIn_mono _ _ _ _ _ _ (Nat.zero_le _) (Nat.le_refl _) (by rw [h2.1]; exact Nat.le_refl _) p), done_all h3 ha hn h2.1.symm p q⟩
theorem Mid.first {lt : α → α → Bool} {pos : α → Nat} {d dk : Array α} {B bs : Nat} (h2 : PermIn 0 d.size d dk) (h4 : Todo lt pos bs 0 d.size dk) : Mid lt pos d dk B bs 0 0 :=
  ⟨rfl, h2, done_none, h4⟩

set_option maxRecDepth 1000000 in
set_option maxHeartbeats 8000000 in
theorem stable_s (enc : α → Value) (cf : α → α → Int) (pos : α → Nat) (hO : SWO (ltOf cf)) (g : Nat) (cb : Array Value) (blk off cap : Nat) (d : Array α) (w : World)
    (eg : ∀ args w, (callFunc g args).run Try.prog w = .ok (.enter g args) w) (hcmp : CmpLays1 Try.prog g cb enc cf blk off d.size w)
    (R : Row1 enc w blk off d) (hpos : ∀ i, i < d.size → pos d[i]! = i) (hsz : d.size ≤ 1099511627776) :
    Calls Try.prog 41 #[.slice (some ⟨blk, off, none⟩) d.size cap, .int .i64 d.size, .func (.func g) #[] cb] w fun e w' => e = .returned (.tuple #[]) ∧
      ∃ d', PermIn 0 d.size d d' ∧ SortedIn (ltR (ltOf cf) pos) 0 d.size d' ∧ SW enc w blk off d' w' := by
  have S0 : Aside (SW enc w blk off d w) := SW.start R.hH
  have HC : Aside _ := hcmp
  have M0 : Hid (Mid (ltOf cf) pos d d 20 1 0 0) := Mid.first (permIn_refl _ _ _) (todo_one hpos)
  have hins := fun (a b : Nat) (dk : Array α) (wx : World) (hs : dk.size = d.size) (S : SW enc w blk off dk wx) (hab : a ≤ b) (hb : b ≤ d.size) =>
    Any.insertionSortCmpFunc_s Try.insI enc cf g cb blk off cap a b d dk w wx eg hcmp R hs.symm S hab (by omega) (by omega)
  have HINS := Lib.hid hins
  have hmer := fun (a m b : Nat) => symMerge_any enc cf (ltR (ltOf cf) pos) (ltR_swo hO) g cb blk off cap d w eg hcmp R (by omega) (b - a) a m b (Nat.le_refl _)
  have HMER := Lib.hid hmer
  obtain ⟨n, hn⟩ : ∃ n, n = d.size := ⟨_, rfl⟩
  rw [← hn] at hsz
  have hzn : (d.size : Int) = (n : Int) := by omega
  have HN := Lib.hid hn
  clear hcmp hins hmer hpos hn
  rw [← HN.out]
  clear hzn
  go_enter Try.func41, Try.ntmps41
  go_wp2
  go_loopw [7, 8] (fun va vb wr => ∃ (k a : Nat) (dk : Array α), va = .int .i64 a ∧ vb = .int .i64 ((a : Int) + 20) ∧ a ≤ n ∧ Hid (Mid (ltOf cf) pos d dk 20 1 k a) ∧ Aside (SW enc w blk off dk wr)) (fun va _ _ => n - (intOf va).toNat)
  case atStart => exact ⟨0, 0, d, rfl, rfl, by omega, M0, S0⟩
  case round =>
    clear S0 M0
    obtain ⟨k, a, dk, rfl, rfl, han, HM, S1⟩ := hrel
    by_cases hlt : a + 20 ≤ n
    · have hltz : (a : Int) + 20 ≤ (n : Int) := by omega
      have hsk := HM.out.size
      have hc := HINS.out a (a + 20) dk wr hsk S1.out (by omega) (by rw [← HN.out]; omega)
      change Calls Try.prog 53 _ _ _ at hc
      have hpl : ∀ i, a ≤ i → i < n → pos dk[i]! = i := fun i h1 h2 => todo_place HM.out.2.2.2 h1 (by rw [← HN.out]; exact h2)
      obtain ⟨ip, iq⟩ := insertion_R (lt := ltOf cf) (pos := pos) hO (a := a) (b := a + 20) (d := dk) (by omega) (by rw [hsk, ← HN.out]; omega) (fun i j h1 h2 h3 => by rw [hpl i h1 (by omega), hpl j (by omega) (by omega)]; exact h2)
      have HM2 : Hid (Mid (ltOf cf) pos d (Sort.insertionSort (ltOf cf) dk a (a + 20)) 20 1 (k + 1) (a + 20)) :=
        HM.out.step (c := 20) rfl (by rw [← HN.out]; exact hlt) (fun i h1 h2 => by rw [hpl i h1 (by omega)]; omega) ip iq
      rw [hsk, ← HN.out, show ((a + 20 : Nat) : Int) = (a : Int) + 20 by omega] at hc
      clear hpl ip iq hsk HM S1
      generalize Sort.insertionSort (ltOf cf) dk a (a + 20) = dn at hc HM2
      go_wp2_with fail
      refine hc.mono ?_
      rintro e w1 ⟨rfl, s1⟩
      have S2 : Aside (SW enc w blk off dn w1) := s1
      clear s1 hc
      go_wp2
      go_roundw
      case rel => exact ⟨k + 1, a + 20, dn, by first | rfl | go_num | (congr 1; omega), by first | rfl | go_num | (congr 1; omega), hlt, HM2, S2⟩
      case measure => simp [intOf]; omega
    · have hltz : ¬ (a : Int) + 20 ≤ (n : Int) := by omega
      have hsk := HM.out.size
      have hc := HINS.out a d.size dk wr hsk S1.out (by rw [← HN.out]; omega) (Nat.le_refl _)
      change Calls Try.prog 53 _ _ _ at hc
      have hpl : ∀ i, a ≤ i → i < d.size → pos dk[i]! = i := fun i h1 h2 => todo_place HM.out.2.2.2 h1 h2
      obtain ⟨ip, iq⟩ := insertion_R (lt := ltOf cf) (pos := pos) hO (a := a) (b := d.size) (d := dk) (by rw [← HN.out]; omega) (by rw [hsk]; exact Nat.le_refl _) (fun i j h1 h2 h3 => by rw [hpl i h1 (by omega), hpl j (by omega) (by omega)]; exact h2)
      have HT2 : Hid (PermIn 0 d.size d (Sort.insertionSort (ltOf cf) dk a d.size) ∧ Todo (ltOf cf) pos 20 0 d.size (Sort.insertionSort (ltOf cf) dk a d.size)) :=
        HM.out.last (by rw [← HN.out]; omega) (by rw [← HN.out]; omega) ip (fun _ => .of_perm (fun i h1 h2 => by rw [hpl i h1 h2]; omega) (by rw [hsk]; exact Nat.le_refl _) ip iq)
      clear hpl ip iq HM S1
      generalize Sort.insertionSort (ltOf cf) dk a d.size = dn at hc HT2
      rw [hsk, ← HN.out] at hc
      clear hsk
      go_wp2_with fail
      refine hc.mono ?_
      rintro e w1 ⟨rfl, s1⟩
      have S2 : Aside (SW enc w blk off dn w1) := s1
      clear s1 hc
      go_wp2
      clear hltz
      go_loopw [6, 7, 8, 9] (fun vs _ _ _ wr => ∃ (bs : Nat) (dk : Array α), vs = .int .i64 bs ∧ 1 ≤ bs ∧ bs ≤ 2199023255572 ∧ Hid (PermIn 0 d.size d dk ∧ Todo (ltOf cf) pos bs 0 d.size dk) ∧ Aside (SW enc w blk off dk wr)) (fun vs _ _ _ _ => n - (intOf vs).toNat)
      case atStart => exact ⟨20, dn, rfl, by omega, by omega, HT2, S2⟩
      case round =>
        clear S2 HT2
        obtain ⟨bs, dk, rfl, hb1, hb2, HT, S1⟩ := hrel
        by_cases hlt2 : bs < n
        · have hlt2z : (bs : Int) < (n : Int) := by omega
          obtain ⟨B, hB⟩ : ∃ B, B = 2 * bs := ⟨_, rfl⟩
          have eB : 2 * (bs : Int) = (B : Int) := by omega
          have eB2 : (bs : Int) * 2 = (B : Int) := by omega
          have bB : B ≤ 4398046511144 := by omega
          have bB1 : bs < B := by omega
          have HB := Lib.hid hB
          have M0 : Hid (Mid (ltOf cf) pos d dk B bs 0 0) := Mid.first HT.out.1 HT.out.2
          clear hB HT
          go_wp2
          go_loopw [7, 8] (fun va vb wr => ∃ (k a b : Nat) (dk : Array α), va = .int .i64 a ∧ vb = .int .i64 b ∧ Hid (b = a + B) ∧ a ≤ n ∧ Hid (Mid (ltOf cf) pos d dk B bs k a) ∧ Aside (SW enc w blk off dk wr)) (fun va _ _ => n - (intOf va).toNat)
          case atStart => exact ⟨0, 0, B, dk, rfl, by first | rfl | go_num | (congr 1; omega), Lib.hid (Nat.zero_add B).symm, by omega, M0, S1⟩
          case round =>
            clear S1 M0
            obtain ⟨k, a, b, dk, rfl, rfl, HE, han, HM, S1⟩ := hrel
            have hbe := HE.out
            by_cases hlt3 : b ≤ n
            · have hlt3z : (b : Int) ≤ (n : Int) := by omega
              have hsk := HM.out.size
              obtain ⟨g1, g2⟩ := todo_two (t := b) HM.out.2.2.2 (by rw [← HN.out]; have := HB.out; omega) (by rw [← HN.out]; have := HB.out; omega)
              have hc := HMER.out a (a + bs) b dk wr hsk S1.out (by omega) (by have := HB.out; omega) (by rw [← HN.out]; exact hlt3) g1.1 g2.1 (good_cross g1 g2)
              have hgp := good_pos g1 g2 (by omega) (by have := HB.out; omega)
              have hstep : ∀ d', PermIn a b dk d' → SortedIn (ltR (ltOf cf) pos) a b d' → Mid (ltOf cf) pos d d' B bs (k + 1) (a + B) := fun d' p q => by
                rw [hbe] at p q hgp
                exact HM.out.step (c := 2) (by rw [HB.out, Nat.mul_comm]) (by rw [← HN.out]; omega) hgp p q
              have HST := Lib.hid hstep
              rw [← HN.out, show ((a + bs : Nat) : Int) = (a : Int) + (bs : Int) by omega] at hc
              have hab : a + bs ≤ n := by have := HB.out; omega
              clear hstep hgp g1 g2 hsk HM S1 hbe
              go_wp2_with fail
              refine hc.mono ?_
              rintro e w1 ⟨rfl, dn, p1, q1, s1⟩
              have S2 : Aside (SW enc w blk off dn w1) := s1
              have HM2 := Lib.hid (HST.out dn p1 q1)
              clear s1 hc p1 q1 HST
              go_wp2
              go_roundw
              case rel => exact ⟨k + 1, b, b + B, dn, rfl, by first | rfl | go_num | (congr 1; omega), Lib.hid rfl, hlt3, by rw [HE.out]; exact HM2, S2⟩
              case measure => have := HE.out; simp [intOf]; omega
            · have hlt3z : ¬ (b : Int) ≤ (n : Int) := by omega
              have hsk := HM.out.size
              by_cases hm : a + bs < n
              · have hmz : (a : Int) + (bs : Int) < (n : Int) := by omega
                obtain ⟨g1, g2⟩ := todo_two (t := d.size) HM.out.2.2.2 (by rw [← HN.out]; exact hm) (by rw [← HN.out]; have := HB.out; omega)
                have hc := HMER.out a (a + bs) d.size dk wr hsk S1.out (by omega) (by rw [← HN.out]; exact hm) (Nat.le_refl _) g1.1 g2.1 (good_cross g1 g2)
                have hgp := good_pos g1 g2 (by omega) (by rw [← HN.out]; omega)
                have hstep : ∀ d', PermIn a d.size dk d' → SortedIn (ltR (ltOf cf) pos) a d.size d' → PermIn 0 d.size d d' ∧ Todo (ltOf cf) pos B 0 d.size d' := fun d' p q =>
                  HM.out.last (by rw [← HN.out]; exact han) (by rw [← HN.out]; omega) p (fun _ => .of_perm hgp (by rw [hsk]; exact Nat.le_refl _) p q)
                have HST := Lib.hid hstep
                rw [← HN.out, show ((a + bs : Nat) : Int) = (a : Int) + (bs : Int) by omega] at hc
                clear hstep hgp g1 g2 hsk HM S1 hbe
                go_wp2_with fail
                refine hc.mono ?_
                rintro e w1 ⟨rfl, dn, p1, q1, s1⟩
                have S2 : Aside (SW enc w blk off dn w1) := s1
                rw [HN.out] at p1 q1
                have HM2 := Lib.hid (HST.out dn p1 q1)
                clear s1 hc p1 q1 HST
                go_wp2
                go_roundw
                case rel => exact ⟨B, dn, by first | rfl | go_num | (congr 1; omega), by omega, by omega, HM2, S2⟩
                case measure => simp [intOf]; omega
              · have hmz : ¬ (a : Int) + (bs : Int) < (n : Int) := by omega
                have HM2 : Hid (PermIn 0 d.size d dk ∧ Todo (ltOf cf) pos B 0 d.size dk) :=
                  HM.out.last (by rw [← HN.out]; exact han) (by rw [← HN.out]; omega) (permIn_refl _ _ _) (fun h => todo_last HM.out.2.2.2 (by rw [← HN.out]; exact hm) h)
                clear hsk HM hbe
                go_wp2
                go_roundw
                case rel => exact ⟨B, dk, by first | rfl | go_num | (congr 1; omega), by omega, by omega, HM2, S1⟩
                case measure => simp [intOf]; omega
        · have hlt2z : ¬ (bs : Int) < (n : Int) := by omega
          have hend := todo_end HT.out.2 (by rw [← HN.out]; omega)
          have HEND := Lib.hid hend
          clear hend
          go_wp2
          go_end0
          rw [HN.out]
          exact ⟨rfl, dk, HT.out.1, HEND.out, S1.out⟩

end Go.Proofs.Ytcpacgflljmlaaa.G4
