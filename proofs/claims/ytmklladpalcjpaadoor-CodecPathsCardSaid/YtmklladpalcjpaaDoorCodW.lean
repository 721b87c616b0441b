/-
  The walk of the reference's node and Decode: what they return is what pN and decd say.
-/
import Derived.Test.YtmklladpalcjpaaDoorCodT
namespace Go.Proofs.YtmklladpalcjpaaDoor
open Go.RowKit Cod
set_option linter.unusedVariables false

theorem pK_nil (f : List UInt8 → Except Nat (Nd × List UInt8)) (m : Nat) : pK f m [] = .error 4 := by cases m <;> rw [pK]
theorem pK_close (f : List UInt8 → Except Nat (Nd × List UInt8)) (m : Nat) (c : UInt8) (r : List UInt8) (hc : c = 41) : pK f m (c :: r) = .ok ([], r) := by cases m <;> rw [pK, if_pos hc]
theorem pK_full (f : List UInt8 → Except Nat (Nd × List UInt8)) (c : UInt8) (r : List UInt8) (hc : ¬ c = 41) : pK f 0 (c :: r) = if begins c = true then .error 5 else .error 2 := by rw [pK, if_neg hc]
theorem pK_more (f : List UInt8 → Except Nat (Nd × List UInt8)) (m : Nat) (c : UInt8) (r : List UInt8) (hc : ¬ c = 41) : pK f (m + 1) (c :: r) = match f (c :: r) with
    | .error e => .error e
    | .ok (x, r') => match pK f m r' with
      | .error e => .error e
      | .ok (l, r'') => .ok (x :: l, r'') := by rw [pK, if_neg hc]; rfl
theorem pN_nil (b : Nat) : pN b [] = .error 4 := by cases b <;> rw [pN]
theorem pN_no (b : Nat) (c : UInt8) (r : List UInt8) (h : begins c = false) : pN b (c :: r) = .error 2 := by cases b <;> rw [pN, if_pos h]
theorem pN_zero (c : UInt8) (r : List UInt8) (h : begins c = true) : pN 0 (c :: r) = .error 5 := by rw [pN, if_neg (by rw [h]; simp)]
theorem pN_txt (b : Nat) (c : UInt8) (r : List UInt8) (h : begins c = true) (hc : ¬ c = 40) : pN (b + 1) (c :: r) = pT (c :: r) := by rw [pN, if_neg (by rw [h]; simp)]; exact if_neg hc
theorem pD_bad : ∀ (s : List UInt8) (n q x : Nat), pD n q s = .error x → x = 2 ∨ x = 4 ∨ x = 5
  | [], n, q, x, h => by rw [pD] at h; cases h; omega
  | c :: s, n, q, x, h => by
    rw [pD] at h
    split at h
    · split at h
      · cases h; omega
      · split at h
        · cases h; omega
        · exact pD_bad s _ _ x h
    · split at h
      · cases h
      · cases h; omega
theorem pT_bad (s : List UInt8) (x : Nat) (h : pT s = .error x) : x = 2 ∨ x = 4 ∨ x = 5 := by
  unfold pT at h
  cases hp : pD 0 0 s with
  | error e => rw [hp] at h; cases h; exact pD_bad s 0 0 _ hp
  | ok p =>
    obtain ⟨n, r⟩ := p
    rw [hp] at h
    simp only [] at h
    split at h
    · cases h; omega
    · cases h
theorem pK_bad (f : List UInt8 → Except Nat (Nd × List UInt8)) (hf : ∀ s x, f s = .error x → x = 2 ∨ x = 4 ∨ x = 5) : ∀ (m : Nat) (s : List UInt8) (x : Nat), pK f m s = .error x → x = 2 ∨ x = 4 ∨ x = 5 := by
  intro m
  induction m with
  | zero =>
    intro s x h
    cases s with
    | nil => rw [pK] at h; cases h; omega
    | cons c s =>
      rw [pK] at h
      split at h
      · cases h
      · split at h <;> (cases h; omega)
  | succ m ih =>
    intro s x h
    cases s with
    | nil => rw [pK] at h; cases h; omega
    | cons c s =>
      rw [pK] at h
      split at h
      · cases h
      · cases h1 : f (c :: s) with
        | error e => rw [h1] at h; cases h; exact hf _ _ h1
        | ok p =>
          obtain ⟨y, r⟩ := p
          rw [h1] at h
          simp only [] at h
          cases h2 : pK f m r with
          | error e => rw [h2] at h; cases h; exact ih _ _ h2
          | ok p => obtain ⟨l, r'⟩ := p; rw [h2] at h; cases h
theorem pN_bad : ∀ (b : Nat) (s : List UInt8) (x : Nat), pN b s = .error x → x = 2 ∨ x = 4 ∨ x = 5 := by
  intro b
  induction b with
  | zero =>
    intro s x h
    cases s with
    | nil => rw [pN] at h; cases h; omega
    | cons c s =>
      rw [pN] at h
      split at h <;> (cases h; omega)
  | succ b ih =>
    intro s x h
    cases s with
    | nil => rw [pN] at h; cases h; omega
    | cons c s =>
      rw [pN] at h
      split at h
      · cases h; omega
      · split at h
        · cases h1 : pK (pN b) 256 s with
          | error e => rw [h1] at h; cases h; exact pK_bad _ ih _ _ _ h1
          | ok p => obtain ⟨l, r⟩ := p; rw [h1] at h; cases h
        · exact pT_bad _ _ h
/-- The elements read so far ahead of what is read from here on. -/
def pre (acc : List Nd) (R : Except Nat (List Nd × List UInt8)) : Except Nat (List Nd × List UInt8) :=
  match R with
  | .error e => .error e
  | .ok (l, r) => .ok (acc ++ l, r)
def asN (R : Except Nat (List Nd × List UInt8)) : Except Nat (Nd × List UInt8) :=
  match R with
  | .error e => .error e
  | .ok (l, r) => .ok (.mk true [] l, r)
/-- Between the rounds of node: T is what the whole call answers. -/
def NdA (T : Except Nat (Nd × List UInt8)) (s : ByteArray) (b : Nat) (acc : List Nd) (i : Nat) : Prop := acc.length ≤ 256 ∧ T = asN (pre acc (pK (pN b) (256 - acc.length) (s.data.toList.drop i)))
theorem NdA.start (s : ByteArray) (b p : Nat) (hp : p < s.size) (hc : s[p] = 40) : NdA (pN (b + 1) (s.data.toList.drop p)) s b [] (p + 1) := by
  refine ⟨by simp, ?_⟩
  rw [drop_L s p hp, hc, pN, if_neg (by decide)]
  simp only [List.length_nil, Nat.sub_zero]
  rw [if_pos trivial]
  unfold asN pre
  cases pK (pN b) 256 (s.data.toList.drop (p + 1)) with
  | error e => rfl
  | ok q => rfl
theorem NdA.four {T : Except Nat (Nd × List UInt8)} {s : ByteArray} {b i : Nat} {acc : List Nd} (h : NdA T s b acc i) (hi : s.size ≤ i) : T = .error 4 := by
  rw [h.2, List.drop_eq_nil_of_le (by simpa using hi), pK_nil]
  rfl
theorem NdA.done {T : Except Nat (Nd × List UInt8)} {s : ByteArray} {b i : Nat} {acc : List Nd} (h : NdA T s b acc i) (hi : i < s.size) (hc : s[i] = 41) : T = .ok (.mk true [] acc, s.data.toList.drop (i + 1)) := by
  rw [h.2, drop_L s i hi, pK_close _ _ _ _ hc]
  unfold pre asN
  simp
theorem NdA.full {T : Except Nat (Nd × List UInt8)} {s : ByteArray} {b i : Nat} {acc : List Nd} (h : NdA T s b acc i) (hi : i < s.size) (hc : ¬ s[i] = 41) (hb : begins s[i] = true) (hl : acc.length = 256) : T = .error 5 := by
  rw [h.2, drop_L s i hi, hl, Nat.sub_self, pK_full _ _ _ hc, if_pos hb]
  rfl
theorem NdA.bad {T : Except Nat (Nd × List UInt8)} {s : ByteArray} {b i x : Nat} {acc : List Nd} (h : NdA T s b acc i) (hi : i < s.size) (hc : ¬ s[i] = 41) (hf : ¬ (begins s[i] = true ∧ acc.length = 256)) (hx : pN b (s.data.toList.drop i) = .error x) : T = .error x := by
  rw [h.2, drop_L s i hi]
  rw [drop_L s i hi] at hx
  by_cases hl : acc.length = 256
  · have hb : begins s[i] = false := by
      cases hb : begins s[i] with
      | true => exact absurd ⟨hb, hl⟩ hf
      | false => rfl
    rw [pN_no b _ _ hb] at hx
    cases hx
    rw [hl, Nat.sub_self, pK_full _ _ _ hc, if_neg (by rw [hb]; simp)]
    rfl
  · obtain ⟨m, hm⟩ : ∃ m, 256 - acc.length = m + 1 := ⟨256 - acc.length - 1, by have := h.1; omega⟩
    rw [hm, pK_more _ _ _ _ hc, hx]
    rfl
theorem NdA.step {T : Except Nat (Nd × List UInt8)} {s : ByteArray} {b i j : Nat} {acc : List Nd} {n : Nd} (h : NdA T s b acc i) (hi : i < s.size) (hc : ¬ s[i] = 41) (hf : ¬ (begins s[i] = true ∧ acc.length = 256)) (hx : pN b (s.data.toList.drop i) = .ok (n, s.data.toList.drop j)) : NdA T s b (acc ++ [n]) j ∧ acc.length < 256 := by
  have hb : begins s[i] = true := by
    cases hb : begins s[i] with
    | true => rfl
    | false =>
      rw [drop_L s i hi] at hx
      rw [pN_no b _ _ hb] at hx
      cases hx
  have hl : acc.length < 256 := by
    have := h.1
    have : ¬ acc.length = 256 := fun e => hf ⟨hb, e⟩
    omega
  refine ⟨⟨by simp; omega, ?_⟩, hl⟩
  obtain ⟨m, hm⟩ : ∃ m, 256 - acc.length = m + 1 := ⟨256 - acc.length - 1, by omega⟩
  have hm' : 256 - (acc ++ [n]).length = m := by simp; omega
  rw [h.2, drop_L s i hi, hm, hm', pK_more _ _ _ _ hc]
  rw [drop_L s i hi] at hx
  simp only [hx]
  unfold pre asN
  cases pK (pN b) m (s.data.toList.drop j) with
  | error e => rfl
  | ok q => simp
/-- Reading a node goes on. -/
theorem pN_less {s : ByteArray} {b i j : Nat} {n : Nd} (hi : i ≤ s.size) (hj : j ≤ s.size) (hx : pN b (s.data.toList.drop i) = .ok (n, s.data.toList.drop j)) : i < j := by
  obtain ⟨u, hu, e⟩ := pN_inv b _ n _ hx
  obtain ⟨c, r, e', _⟩ := enc_head hu
  have h1 := congrArg List.length e
  rw [e'] at h1
  have h2 : s.data.toList.length = s.size := by simp
  rw [List.length_drop, List.length_append, List.length_drop, List.length_cons] at h1
  omega
set_option maxRecDepth 20000 in
set_option maxHeartbeats 2000000 in
theorem rnode_four (b lv : Nat) (s : ByteArray) (p : Nat) (w : World) (hs : s.size ≤ 20000) (hp : p = s.size) :
    Calls Tryd.prog 22 #[.string s, .int .i64 (p : Int), .int .i64 (lv : Int)] w (ResEnd s.data.toList (pN b (s.data.toList.drop p)) w) := by
  have B0 := up_1 w (.cells #[.bool false, .string ⟨#[]⟩, .slice none 0 0] 25)
  have kr := Bn.new w (.bool false) (.string ⟨#[]⟩) (.slice none 0 0) 25
  have k0 := kr.1
  have k1 := kr.2.1
  have k2 := kr.2.2.1
  have hT : Hid (pN b (s.data.toList.drop p) = .error 4) := by
    show _ = _
    rw [List.drop_eq_nil_of_le (by simp; omega), pN_nil]
  go_enter Tryd.func22, Tryd.ntmps22
  go_wp2
  refine bodyPost_ret (v := .tuple #[.agg #[.bool false, .string ⟨#[]⟩, .slice none 0 0], .int .i64 0, .int .i64 4]) (by simp [results, Tryd.results22, go_sem, k0, k1, k2]) rfl (ResEnd.err hT.out B0)
set_option maxRecDepth 20000 in
set_option maxHeartbeats 2000000 in
theorem rnode_two (b lv : Nat) (s : ByteArray) (p : Nat) (w : World) (hs : s.size ≤ 20000) (hp : p < s.size) (hb : begins s[p] = false) :
    Calls Tryd.prog 22 #[.string s, .int .i64 (p : Int), .int .i64 (lv : Int)] w (ResEnd s.data.toList (pN b (s.data.toList.drop p)) w) := by
  have B0 := up_1 w (.cells #[.bool false, .string ⟨#[]⟩, .slice none 0 0] 25)
  have kr := Bn.new w (.bool false) (.string ⟨#[]⟩) (.slice none 0 0) 25
  have k0 := kr.1
  have k1 := kr.2.1
  have k2 := kr.2.2.1
  have hT : Hid (pN b (s.data.toList.drop p) = .error 2) := by
    show _ = _
    rw [drop_L s p hp, pN_no b _ _ hb]
  have Hb := Lib.hid hb
  clear hb
  go_enter Tryd.func22, Tryd.ntmps22
  go_wp2_with (first | (go_at_call 29; (with_reducible refine (begins_walk _ _).mono ?_); rintro e w1 ⟨rfl, rfl⟩; rw [Hb.out]))
  refine bodyPost_ret (v := .tuple #[.agg #[.bool false, .string ⟨#[]⟩, .slice none 0 0], .int .i64 0, .int .i64 2]) (by simp [results, Tryd.results22, go_sem, k0, k1, k2]) rfl (ResEnd.err hT.out B0)
set_option maxRecDepth 20000 in
set_option maxHeartbeats 2000000 in
theorem rnode_five (b lv : Nat) (s : ByteArray) (p : Nat) (w : World) (hs : s.size ≤ 20000) (hp : p < s.size) (hb : begins s[p] = true) (hlv : 12 < lv) (hb0 : b = 0) (hl2 : lv ≤ 100) :
    Calls Tryd.prog 22 #[.string s, .int .i64 (p : Int), .int .i64 (lv : Int)] w (ResEnd s.data.toList (pN b (s.data.toList.drop p)) w) := by
  have B0 := up_1 w (.cells #[.bool false, .string ⟨#[]⟩, .slice none 0 0] 25)
  have kr := Bn.new w (.bool false) (.string ⟨#[]⟩) (.slice none 0 0) 25
  have k0 := kr.1
  have k1 := kr.2.1
  have k2 := kr.2.2.1
  have hT : Hid (pN b (s.data.toList.drop p) = .error 5) := by
    show _ = _
    rw [hb0, drop_L s p hp, pN_zero _ _ hb]
  have Hb := Lib.hid hb
  clear hb
  go_enter Tryd.func22, Tryd.ntmps22
  go_wp2_with (first | (go_at_call 29; (with_reducible refine (begins_walk _ _).mono ?_); rintro e w1 ⟨rfl, rfl⟩; rw [Hb.out]))
  refine bodyPost_ret (v := .tuple #[.agg #[.bool false, .string ⟨#[]⟩, .slice none 0 0], .int .i64 0, .int .i64 5]) (by simp [results, Tryd.results22, go_sem, k0, k1, k2]) rfl (ResEnd.err hT.out B0)
/-- The triple of a call inside, written into the result's box. -/
theorem node_end {L : List UInt8} {R : Except Nat (Nd × List UInt8)} {w wa w1 : World} {l : Bool} {t : ByteArray} {A : Option Addr} {m c p er : Nat} (hR : match R with
    | .ok (n, r) => er = 0 ∧ RdM (fun g => wa.heap.size ≤ g) w1 n (.agg #[.bool l, .string t, .slice A m c]) ∧ r = L.drop p ∧ p ≤ L.length
    | .error x => er = x ∧ p = 0 ∧ l = false ∧ t = ⟨#[]⟩ ∧ A = none ∧ m = 0 ∧ c = 0) (hs : w.heap.size ≤ wa.heap.size) (hlt : w.heap.size < wa.heap.size) (hB : Below w.heap.size w w1) :
    ResEnd L R w (.returned (.tuple #[.agg #[.bool l, .string t, .slice A m c], .int .i64 (p : Int), .int .i64 (er : Int)])) (((w1.setCell ⟨w.heap.size, 0, none⟩ (.bool l)).setCell ⟨w.heap.size, 1, none⟩ (.string t)).setCell ⟨w.heap.size, 2, none⟩ (.slice A m c)) := by
  refine ⟨l, t, A, m, c, p, er, rfl, up_put hB (Nat.le_refl _) _ _ _, ?_⟩
  cases R with
  | error x => exact hR
  | ok q =>
    obtain ⟨n, r⟩ := q
    obtain ⟨h1, h2, h3, h4⟩ := hR
    refine ⟨h1, ?_, h3, h4⟩
    exact (((h2.put _ _ (by show ¬ _ ≤ _; omega) _).put _ _ (by show ¬ _ ≤ _; omega) _).put _ _ (by show ¬ _ ≤ _; omega) _).mono (fun g hg => Nat.le_trans hs hg)
set_option maxRecDepth 20000 in
set_option maxHeartbeats 2000000 in
theorem rnode_text (b lv : Nat) (s : ByteArray) (p : Nat) (w : World) (hs : s.size ≤ 20000) (hp : p < s.size) (hb : begins s[p] = true) (hlv : lv ≤ 12) (hc : ¬ s[p] = 40) :
    Calls Tryd.prog 22 #[.string s, .int .i64 (p : Int), .int .i64 (lv : Int)] w (ResEnd s.data.toList (pN (b + 1) (s.data.toList.drop p)) w) := by
  have B0 := up_1 w (.cells #[.bool false, .string ⟨#[]⟩, .slice none 0 0] 25)
  have kr := Bn.new w (.bool false) (.string ⟨#[]⟩) (.slice none 0 0) 25
  have k0 := kr.1
  have k1 := kr.2.1
  have k2 := kr.2.2.1
  have hT : Hid (pN (b + 1) (s.data.toList.drop p) = pT (s.data.toList.drop p)) := by
    show _ = _
    rw [drop_L s p hp, pN_txt b _ _ hb hc]
  have Hb := Lib.hid hb
  have hc' : ((s[p].toNat : Int) == 40) = false := by
    have : ¬ s[p].toNat = 40 := fun e => hc (UInt8.toNat_inj.1 e)
    simp
    omega
  rw [hT.out]
  clear hb hc hT
  go_enter Tryd.func22, Tryd.ntmps22
  go_wp2_with (first | (go_at_call 29; (with_reducible refine (begins_walk _ _).mono ?_); rintro e w1 ⟨rfl, rfl⟩; rw [Hb.out]) | (go_at_call 30; (with_reducible refine (rtext_walk s p _ hs (by omega)).mono ?_); rintro e w1 ⟨l, t, A, m, c, p', er, rfl, bb, hR⟩; have kr := kr.below bb; have B1 := B0.trans (bb.mono B0.size); have k0 := kr.1; have k1 := kr.2.1; have k2 := kr.2.2.1; have k3 := kr.2.2.2.1; have k4 := kr.2.2.2.2.1; have k5 := kr.2.2.2.2.2))
  have kp := kr.put (.bool l) (.string t) (.slice A m c)
  have p0 := kp.1
  have p1 := kp.2.1
  have p2 := kp.2.2.1
  refine bodyPost_ret (v := .tuple #[.agg #[.bool l, .string t, .slice A m c], .int .i64 (p' : Int), .int .i64 (er : Int)]) (by simp [results, Tryd.results22, go_sem, p0, p1, p2]) rfl ?_
  exact node_end hR B0.size (by simp) B1
theorem one3 (l : Bool) (t : ByteArray) (A : Option Addr) (m c : Nat) : ∀ u ∈ [Value.bool l, Value.string t, Value.slice A m c], u.oneCell' = true := by
  intro u hu
  simp only [List.mem_cons, List.not_mem_nil, or_false] at hu
  rcases hu with rfl | rfl | rfl <;> rfl
theorem list_end {s : ByteArray} {T : Except Nat (Nd × List UInt8)} {i N c : Nat} {acc : List Nd} {A : Option Addr} {w wr : World} (hT : T = .ok (.mk true [] acc, s.data.toList.drop (i + 1))) (hN : acc.length = N) (K : Kids (w.heap.size + 2) wr (.slice A N c) acc) (hi : i < s.size) (hB : Below w.heap.size w wr) :
    ResEnd s.data.toList T w (.returned (.tuple #[.agg #[.bool true, .string ⟨#[]⟩, .slice A N c], .int .i64 ((i : Int) + 1), .int .i64 0])) (((wr.setCell ⟨w.heap.size, 0, none⟩ (.bool true)).setCell ⟨w.heap.size, 1, none⟩ (.string ⟨#[]⟩)).setCell ⟨w.heap.size, 2, none⟩ (.slice A N c)) := by
  subst hT
  refine ⟨_, _, _, _, _, i + 1, 0, rfl, up_put hB (Nat.le_refl _) _ _ _, rfl, ?_, rfl, by simp; omega⟩
  have h := RdM.of_parts (l := true) (t := []) (K.reads) (by simp)
  refine RdM.mono ?_ (fun g (hg : w.heap.size + 2 ≤ g) => (by omega : w.heap.size ≤ g))
  exact ((h.put _ _ (by show ¬ _ ≤ _; omega) _).put _ _ (by show ¬ _ ≤ _; omega) _).put _ _ (by show ¬ _ ≤ _; omega) _
set_option maxRecDepth 20000 in
set_option maxHeartbeats 2000000 in
theorem rnode_list (b lv : Nat) (s : ByteArray) (p : Nat) (w : World) (hs : s.size ≤ 20000) (hp : p < s.size) (hc : s[p] = 40) (hlv : lv ≤ 12) (IH : Hid (∀ (q : Nat) (W : World), q ≤ s.size → Calls Tryd.prog 22 #[.string s, .int .i64 (q : Int), .int .i64 ((lv : Int) + 1)] W (ResEnd s.data.toList (pN b (s.data.toList.drop q)) W))) :
    Calls Tryd.prog 22 #[.string s, .int .i64 (p : Int), .int .i64 (lv : Int)] w (ResEnd s.data.toList (pN (b + 1) (s.data.toList.drop p)) w) := by
  have B0 := up_2 w (.cells #[.bool false, .string ⟨#[]⟩, .slice none 0 0] 25) (.cells #[.bool true, .string ⟨#[]⟩, .slice none 0 0] 25)
  have kr := (Bn.new w (.bool false) (.string ⟨#[]⟩) (.slice none 0 0) 25).up (.cells #[.bool true, .string ⟨#[]⟩, .slice none 0 0] 25)
  have kb := Bn.new (w.alloc (.cells #[.bool false, .string ⟨#[]⟩, .slice none 0 0] 25)) (.bool true) (.string ⟨#[]⟩) (.slice none 0 0) 25
  rw [show (w.alloc (.cells #[.bool false, .string ⟨#[]⟩, .slice none 0 0] 25)).heap.size = w.heap.size + 1 by simp] at kb
  have K := Kids.start (w.heap.size + 2) ((w.alloc (.cells #[.bool false, .string ⟨#[]⟩, .slice none 0 0] 25)).alloc (.cells #[.bool true, .string ⟨#[]⟩, .slice none 0 0] 25))
  have hBs : w.heap.size + 2 ≤ ((w.alloc (.cells #[.bool false, .string ⟨#[]⟩, .slice none 0 0] 25)).alloc (.cells #[.bool true, .string ⟨#[]⟩, .slice none 0 0] 25)).heap.size := by simp
  obtain ⟨i0, hi0, hz0, hz1, hz2⟩ := info_parts info_node
  obtain ⟨T, hT⟩ : ∃ T, pN (b + 1) (s.data.toList.drop p) = T := ⟨_, rfl⟩
  have hA := NdA.start s b p hp hc
  rw [hT] at hA ⊢
  have hA := Lib.hid hA
  have Hb : Hid (begins s[p] = true) := by show _ = _; rw [hc]; rfl
  have hc' : ((s[p].toNat : Int) != 40) = false := by rw [hc]; rfl
  clear hT hc
  go_enter Tryd.func22, Tryd.ntmps22
  go_wp2_with (first | (go_at_call 29; (with_reducible refine (begins_walk _ _).mono ?_); rintro e w1 ⟨rfl, rfl⟩; rw [Hb.out]))
  go_loopw [10] (fun z wr => ∃ (i N c : Nat) (acc : List Nd) (A : Option Addr), z = .int .i64 (i : Int) ∧ i ≤ s.size ∧ Hid (acc.length = N) ∧ Hid (NdA T s b acc i) ∧ Bn wr w.heap.size (.bool false) (.string ⟨#[]⟩) (.slice none 0 0) ∧ Bn wr (w.heap.size + 1) (.bool true) (.string ⟨#[]⟩) (.slice A N c) ∧ Kids (w.heap.size + 2) wr (.slice A N c) acc ∧ w.heap.size + 2 ≤ wr.heap.size ∧ Below w.heap.size w wr) (fun z _ => s.size - (intOf z).toNat)
  case atStart => exact ⟨p + 1, 0, 0, [], none, by go_num, by omega, Lib.hid rfl, hA, kr, kb, K, hBs, B0⟩
  case round =>
    clear kr kb K hBs B0 hA
    obtain ⟨i, N, c, acc, A, rfl, hi, hN, hA, kr, kb, K, hBs, B0⟩ := hrel
    have k0 := kr.1
    have k1 := kr.2.1
    have k2 := kr.2.2.1
    have k3 := kr.2.2.2.1
    have k4 := kr.2.2.2.2.1
    have k5 := kr.2.2.2.2.2
    have q0 := kb.1
    have q1 := kb.2.1
    have q2 := kb.2.2.1
    have q3 := kb.2.2.2.1
    have q4 := kb.2.2.2.2.1
    have q5 := kb.2.2.2.2.2
    by_cases hlt : i < s.size
    · by_cases hc41 : s[i] = 41
      · have hT := Lib.hid (hA.out.done hlt hc41)
        have hcb : ((s[i].toNat : Int) == 41) = true := by rw [hc41]; rfl
        clear hc41
        go_wp2
        have kp := kr.put (.bool true) (.string ⟨#[]⟩) (.slice A N c)
        have p0 := kp.1
        have p1 := kp.2.1
        have p2 := kp.2.2.1
        refine bodyPost_ret (v := .tuple #[.agg #[.bool true, .string ⟨#[]⟩, .slice A N c], .int .i64 ((i : Int) + 1), .int .i64 0]) (by simp [results, Tryd.results22, go_sem, p0, p1, p2]) rfl (list_end hT.out hN.out K hlt B0)
      · have hcb : ((s[i].toNat : Int) == 41) = false := by
          have : ¬ s[i].toNat = 41 := fun e => hc41 (UInt8.toNat_inj.1 e)
          simp
          omega
        cases hb2 : begins s[i] with
        | true =>
          by_cases hNm : N = 256
          · have hT := Lib.hid (hA.out.full hlt hc41 hb2 (by rw [hN.out, hNm]))
            have Hb2 := Lib.hid hb2
            have hNb : ((N : Int) == 256) = true := by rw [hNm]; rfl
            clear hb2 hNm
            go_wp2_with (first | (go_at_call 29; (with_reducible refine (begins_walk _ _).mono ?_); rintro e w1 ⟨rfl, rfl⟩; rw [Hb2.out]))
            have kp := kr.put (.bool false) (.string ⟨#[]⟩) (.slice none 0 0)
            have p0 := kp.1
            have p1 := kp.2.1
            have p2 := kp.2.2.1
            refine bodyPost_ret (v := .tuple #[.agg #[.bool false, .string ⟨#[]⟩, .slice none 0 0], .int .i64 0, .int .i64 5]) (by simp [results, Tryd.results22, go_sem, p0, p1, p2]) rfl (ResEnd.err hT.out (up_put B0 (Nat.le_refl _) _ _ _))
          · have hNb : ((N : Int) == 256) = false := by simp; omega
            have hf : Hid (¬ (begins s[i] = true ∧ acc.length = 256)) := fun h => hNm (by rw [← hN.out]; exact h.2)
            have Hb2 := Lib.hid hb2
            clear hb2 hNm
            cases hx : pN b (s.data.toList.drop i) with
            | error x =>
              have hT := Lib.hid (hA.out.bad hlt hc41 hf.out hx)
              have hx0 : ((x : Int) == 0) = false := by have := pN_bad b _ x hx; simp; omega
              have Hx := Lib.hid hx
              clear hx
              go_wp2_with (first | (go_at_call 29; (with_reducible refine (begins_walk _ _).mono ?_); rintro e w1 ⟨rfl, rfl⟩; rw [Hb2.out]) | (go_at_call 22; (with_reducible refine (IH.out i _ (by omega)).mono ?_); rw [Hx.out]; rintro e w2 ⟨l, t, A', m', c', p', er, rfl, bb, hR⟩; obtain ⟨rfl, rfl, rfl, rfl, rfl, rfl, rfl⟩ := hR; have kr := kr.below bb; have kb := kb.below bb; have K := K.below bb; have hBs := Nat.le_trans hBs bb.size; have B0 := B0.trans (bb.mono B0.size); clear bb; have kr := kr.up (.cells #[.bool false, .string ⟨#[]⟩, .slice none 0 0] 25); have B0 := B0.alloc B0.size (.cells #[.bool false, .string ⟨#[]⟩, .slice none 0 0] 25); have k0 := kr.1; have k1 := kr.2.1; have k2 := kr.2.2.1; have k3 := kr.2.2.2.1; have k4 := kr.2.2.2.2.1; have k5 := kr.2.2.2.2.2))
              have kp := kr.put (.bool false) (.string ⟨#[]⟩) (.slice none 0 0)
              have p0 := kp.1
              have p1 := kp.2.1
              have p2 := kp.2.2.1
              refine bodyPost_ret (v := .tuple #[.agg #[.bool false, .string ⟨#[]⟩, .slice none 0 0], .int .i64 0, .int .i64 (er : Int)]) (by simp [results, Tryd.results22, go_sem, p0, p1, p2]) rfl (ResEnd.err hT.out (up_put B0 (Nat.le_refl _) _ _ _))
            | ok q =>
              obtain ⟨n, r⟩ := q
              have Hx := Lib.hid hx
              clear hx
              go_wp2_with (first | (go_at_call 29; (with_reducible refine (begins_walk _ _).mono ?_); rintro e w1 ⟨rfl, rfl⟩; rw [Hb2.out]) | (go_at_call 22; (with_reducible refine (IH.out i _ (by omega)).mono ?_); rw [Hx.out]; rintro e w2 ⟨l, t, A', m', c', p', er, rfl, bb, hR⟩; obtain ⟨he, hM, hr, hp'⟩ := hR; subst he; have hp' : p' ≤ s.size := (by simpa using hp'); have hxx : pN b (s.data.toList.drop i) = .ok (n, s.data.toList.drop p') := (by rw [Hx.out, hr]); have hless := pN_less (by omega) hp' hxx; have hS := Lib.hid (hA.out.step hlt hc41 hf.out hxx); clear hxx hr; have hM := Lib.hid (K.new hBs hM); have kr := kr.below bb; have kb := kb.below bb; have K := K.below bb; have hBs := Nat.le_trans hBs bb.size; have B0 := B0.trans (bb.mono B0.size); clear bb; have qa2 := (kb.up (.cells #[.bool l, .string t, .slice A' m' c'] 25)).2.2.1) | (at_builtin; obtain ⟨C, hrow, hC⟩ := (K.below (up_2 _ (.cells #[.bool l, .string t, .slice A' m' c'] 25) (.cells #[.bool l, .string t, .slice A' m' c'] 25))); have hN4 := hM.out.wider (up_2 _ (.cells #[.bool l, .string t, .slice A' m' c'] 25) (.cells #[.bool l, .string t, .slice A' m' c'] 25)); rw [hN.out] at hrow; refine wpList_append_lies _ rfl (.tmp 76) (.tmp 78) 23 rfl (w.heap.size + 2) 25 i0 (.agg #[.bool false, .string ⟨#[]⟩, .slice none 0 0]) 3 48 Tryd.underlying23 hi0 hz0 hz1 hz2 rfl (by decide) _ N C rfl hrow ⟨_, 0, none⟩ 1 1 [.bool l, .string t, .slice A' m' c'] rfl rfl (lit_cells3 _ _ _ _ _ _ (by simp)) (one3 l t A' m' c') (by decide) (by have := hS.out.2; have := hN.out; unfold maxLen; omega) (by have := hS.out.2; have := hN.out; omega) (by simp; omega) _ rfl ?_; intro g' cap' w4 hrow4 hg4 hat4 hlt4; have hB4 := Below.grown (Below.refl (w.heap.size + 2) _) hg4 (by simp; omega) (fun k hk => (hrow.lt k hk).1); have kr := (kr.below (up_2 _ (.cells #[.bool l, .string t, .slice A' m' c'] 25) (.cells #[.bool l, .string t, .slice A' m' c'] 25))).belowB hB4 (by omega); have kb := (kb.below (up_2 _ (.cells #[.bool l, .string t, .slice A' m' c'] 25) (.cells #[.bool l, .string t, .slice A' m' c'] 25))).belowB hB4 (by omega); have B0 := B0.trans ((up_2 _ (.cells #[.bool l, .string t, .slice A' m' c'] 25) (.cells #[.bool l, .string t, .slice A' m' c'] 25)).mono B0.size); have B0 := B0.grown hg4 (by simp; omega) (fun k hk => Nat.le_trans (by omega) (hrow.lt k hk).1); have k0 := kr.1; have k1 := kr.2.1; have k2 := kr.2.2.1; have k3 := kr.2.2.2.1; have k4 := kr.2.2.2.2.1; have k5 := kr.2.2.2.2.2; have q0 := kb.1; have q1 := kb.2.1; have q2 := kb.2.2.1; have q3 := kb.2.2.2.1; have q4 := kb.2.2.2.2.1; have q5 := kb.2.2.2.2.2))
              have hs4 := hB4.size
              go_roundw
              case rel =>
                have e := hN.out
                subst e
                have K4 := (Kids.append hC hN4 hrow4 hg4 hat4 rfl).put (w.heap.size + 1) 2 (by omega) (.slice (some ⟨g', 0, none⟩) (acc.length + 1) cap')
                exact ⟨p', acc.length + 1, cap', acc ++ [n], some ⟨g', 0, none⟩, rfl, hp', Lib.hid (by simp), Lib.hid hS.out.1, kr.set2o (by omega) _, kb.set2 _, K4, by simp at hs4 ⊢; omega, B0.setCell (p := ⟨w.heap.size + 1, 2, none⟩) (by show _ ≤ _ + 1; omega) _⟩
              case measure => simp [intOf]; omega
        | false =>
          have hf : Hid (¬ (begins s[i] = true ∧ acc.length = 256)) := fun h => by rw [hb2] at h; cases h.1
          have Hb2 := Lib.hid hb2
          clear hb2
          cases hx : pN b (s.data.toList.drop i) with
          | error x =>
            have hT := Lib.hid (hA.out.bad hlt hc41 hf.out hx)
            have hx0 : ((x : Int) == 0) = false := by have := pN_bad b _ x hx; simp; omega
            have Hx := Lib.hid hx
            clear hx
            go_wp2_with (first | (go_at_call 29; (with_reducible refine (begins_walk _ _).mono ?_); rintro e w1 ⟨rfl, rfl⟩; rw [Hb2.out]) | (go_at_call 22; (with_reducible refine (IH.out i _ (by omega)).mono ?_); rw [Hx.out]; rintro e w2 ⟨l, t, A', m', c', p', er, rfl, bb, hR⟩; obtain ⟨rfl, rfl, rfl, rfl, rfl, rfl, rfl⟩ := hR; have kr := kr.below bb; have kb := kb.below bb; have K := K.below bb; have hBs := Nat.le_trans hBs bb.size; have B0 := B0.trans (bb.mono B0.size); clear bb; have kr := kr.up (.cells #[.bool false, .string ⟨#[]⟩, .slice none 0 0] 25); have B0 := B0.alloc B0.size (.cells #[.bool false, .string ⟨#[]⟩, .slice none 0 0] 25); have k0 := kr.1; have k1 := kr.2.1; have k2 := kr.2.2.1; have k3 := kr.2.2.2.1; have k4 := kr.2.2.2.2.1; have k5 := kr.2.2.2.2.2))
            have kp := kr.put (.bool false) (.string ⟨#[]⟩) (.slice none 0 0)
            have p0 := kp.1
            have p1 := kp.2.1
            have p2 := kp.2.2.1
            refine bodyPost_ret (v := .tuple #[.agg #[.bool false, .string ⟨#[]⟩, .slice none 0 0], .int .i64 0, .int .i64 (er : Int)]) (by simp [results, Tryd.results22, go_sem, p0, p1, p2]) rfl (ResEnd.err hT.out (up_put B0 (Nat.le_refl _) _ _ _))
          | ok q =>
            obtain ⟨n, r⟩ := q
            have Hx := Lib.hid hx
            clear hx
            go_wp2_with (first | (go_at_call 29; (with_reducible refine (begins_walk _ _).mono ?_); rintro e w1 ⟨rfl, rfl⟩; rw [Hb2.out]) | (go_at_call 22; (with_reducible refine (IH.out i _ (by omega)).mono ?_); rw [Hx.out]; rintro e w2 ⟨l, t, A', m', c', p', er, rfl, bb, hR⟩; obtain ⟨he, hM, hr, hp'⟩ := hR; subst he; have hp' : p' ≤ s.size := (by simpa using hp'); have hxx : pN b (s.data.toList.drop i) = .ok (n, s.data.toList.drop p') := (by rw [Hx.out, hr]); have hless := pN_less (by omega) hp' hxx; have hS := Lib.hid (hA.out.step hlt hc41 hf.out hxx); clear hxx hr; have hM := Lib.hid (K.new hBs hM); have kr := kr.below bb; have kb := kb.below bb; have K := K.below bb; have hBs := Nat.le_trans hBs bb.size; have B0 := B0.trans (bb.mono B0.size); clear bb; have qa2 := (kb.up (.cells #[.bool l, .string t, .slice A' m' c'] 25)).2.2.1) | (at_builtin; obtain ⟨C, hrow, hC⟩ := (K.below (up_2 _ (.cells #[.bool l, .string t, .slice A' m' c'] 25) (.cells #[.bool l, .string t, .slice A' m' c'] 25))); have hN4 := hM.out.wider (up_2 _ (.cells #[.bool l, .string t, .slice A' m' c'] 25) (.cells #[.bool l, .string t, .slice A' m' c'] 25)); rw [hN.out] at hrow; refine wpList_append_lies _ rfl (.tmp 76) (.tmp 78) 23 rfl (w.heap.size + 2) 25 i0 (.agg #[.bool false, .string ⟨#[]⟩, .slice none 0 0]) 3 48 Tryd.underlying23 hi0 hz0 hz1 hz2 rfl (by decide) _ N C rfl hrow ⟨_, 0, none⟩ 1 1 [.bool l, .string t, .slice A' m' c'] rfl rfl (lit_cells3 _ _ _ _ _ _ (by simp)) (one3 l t A' m' c') (by decide) (by have := hS.out.2; have := hN.out; unfold maxLen; omega) (by have := hS.out.2; have := hN.out; omega) (by simp; omega) _ rfl ?_; intro g' cap' w4 hrow4 hg4 hat4 hlt4; have hB4 := Below.grown (Below.refl (w.heap.size + 2) _) hg4 (by simp; omega) (fun k hk => (hrow.lt k hk).1); have kr := (kr.below (up_2 _ (.cells #[.bool l, .string t, .slice A' m' c'] 25) (.cells #[.bool l, .string t, .slice A' m' c'] 25))).belowB hB4 (by omega); have kb := (kb.below (up_2 _ (.cells #[.bool l, .string t, .slice A' m' c'] 25) (.cells #[.bool l, .string t, .slice A' m' c'] 25))).belowB hB4 (by omega); have B0 := B0.trans ((up_2 _ (.cells #[.bool l, .string t, .slice A' m' c'] 25) (.cells #[.bool l, .string t, .slice A' m' c'] 25)).mono B0.size); have B0 := B0.grown hg4 (by simp; omega) (fun k hk => Nat.le_trans (by omega) (hrow.lt k hk).1); have k0 := kr.1; have k1 := kr.2.1; have k2 := kr.2.2.1; have k3 := kr.2.2.2.1; have k4 := kr.2.2.2.2.1; have k5 := kr.2.2.2.2.2; have q0 := kb.1; have q1 := kb.2.1; have q2 := kb.2.2.1; have q3 := kb.2.2.2.1; have q4 := kb.2.2.2.2.1; have q5 := kb.2.2.2.2.2))
            have hs4 := hB4.size
            go_roundw
            case rel =>
              have e := hN.out
              subst e
              have K4 := (Kids.append hC hN4 hrow4 hg4 hat4 rfl).put (w.heap.size + 1) 2 (by omega) (.slice (some ⟨g', 0, none⟩) (acc.length + 1) cap')
              exact ⟨p', acc.length + 1, cap', acc ++ [n], some ⟨g', 0, none⟩, rfl, hp', Lib.hid (by simp), Lib.hid hS.out.1, kr.set2o (by omega) _, kb.set2 _, K4, by simp at hs4 ⊢; omega, B0.setCell (p := ⟨w.heap.size + 1, 2, none⟩) (by show _ ≤ _ + 1; omega) _⟩
            case measure => simp [intOf]; omega
    · have hT := Lib.hid (hA.out.four (by omega))
      go_wp2
      have kp := kr.put (.bool false) (.string ⟨#[]⟩) (.slice none 0 0)
      have p0 := kp.1
      have p1 := kp.2.1
      have p2 := kp.2.2.1
      refine bodyPost_ret (v := .tuple #[.agg #[.bool false, .string ⟨#[]⟩, .slice none 0 0], .int .i64 0, .int .i64 4]) (by simp [results, Tryd.results22, go_sem, p0, p1, p2]) rfl (ResEnd.err hT.out (up_put B0 (Nat.le_refl _) _ _ _))
theorem rnode_walk : ∀ (b lv : Nat), lv + b = 13 → ∀ (s : ByteArray) (p : Nat) (w : World), s.size ≤ 20000 → p ≤ s.size → Calls Tryd.prog 22 #[.string s, .int .i64 (p : Int), .int .i64 (lv : Int)] w (ResEnd s.data.toList (pN b (s.data.toList.drop p)) w) := by
  intro b
  induction b with
  | zero =>
    intro lv hl s p w hs hp
    by_cases h1 : p = s.size
    · exact rnode_four 0 lv s p w hs h1
    · cases hb : begins s[p] with
      | false => exact rnode_two 0 lv s p w hs (by omega) hb
      | true => exact rnode_five 0 lv s p w hs (by omega) hb (by omega) rfl (by omega)
  | succ b ih =>
    intro lv hl s p w hs hp
    by_cases h1 : p = s.size
    · exact rnode_four (b + 1) lv s p w hs h1
    · cases hb : begins s[p] with
      | false => exact rnode_two (b + 1) lv s p w hs (by omega) hb
      | true =>
        by_cases hc : s[p] = 40
        · exact rnode_list b lv s p w hs (by omega) hc (by omega) (fun q W hq => ih (lv + 1) (by omega) s q W hs hq)
        · exact rnode_text b lv s p w hs (by omega) hb (by omega) hc
/-- What Decode returns. -/
def DecEnd (R : Except Nat Nd) (w : World) (e : Ending) (w' : World) : Prop :=
  ∃ (l : Bool) (t : ByteArray) (A : Option Addr) (m c er : Nat), e = .returned (.tuple #[.agg #[.bool l, .string t, .slice A m c], .int .i64 (er : Int)]) ∧ Below w.heap.size w w' ∧
    match R with
    | .ok n => er = 0 ∧ RdM (fun g => w.heap.size ≤ g) w' n (.agg #[.bool l, .string t, .slice A m c])
    | .error x => er = x ∧ l = false ∧ t = ⟨#[]⟩ ∧ A = none ∧ m = 0 ∧ c = 0
theorem DecEnd.err {R : Except Nat Nd} {w w' : World} {x : Nat} (hR : R = .error x) (hB : Below w.heap.size w w') : DecEnd R w (.returned (.tuple #[.agg #[.bool false, .string ⟨#[]⟩, .slice none 0 0], .int .i64 (x : Int)])) w' := by
  subst hR
  exact ⟨_, _, _, _, _, x, rfl, hB, rfl, rfl, rfl, rfl, rfl, rfl⟩
theorem decd_bad {s : List UInt8} {x : Nat} (h : decd s = .error x) : x = 2 ∨ x = 4 ∨ x = 5 := by
  unfold decd at h
  split at h
  · cases h; omega
  · cases h1 : pN 12 s with
    | error e => rw [h1] at h; cases h; exact pN_bad 12 s _ h1
    | ok q =>
      obtain ⟨n, r⟩ := q
      rw [h1] at h
      simp only [] at h
      split at h
      · cases h
      · cases h; omega
theorem decd_long {s : List UInt8} (h : 20000 < s.length) : decd s = .error 5 := by unfold decd; exact if_pos h
theorem decd_err {s : List UInt8} {x : Nat} (h : s.length ≤ 20000) (hx : pN 12 s = .error x) : decd s = .error x := by
  unfold decd
  rw [if_neg (by omega), hx]
theorem decd_two {s r : List UInt8} {n : Nd} (h : s.length ≤ 20000) (hx : pN 12 s = .ok (n, r)) (hr : ¬ r = []) : decd s = .error 2 := by
  unfold decd
  rw [if_neg (by omega), hx]
  exact if_neg (by simpa using hr)
theorem decd_yes {s : List UInt8} {n : Nd} (h : s.length ≤ 20000) (hx : pN 12 s = .ok (n, [])) : decd s = .ok n := by
  unfold decd
  rw [if_neg (by omega), hx]
  rfl
end Go.Proofs.YtmklladpalcjpaaDoor
