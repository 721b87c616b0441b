/-
  The walks of the reader's list and node.
-/
import Derived.Test.YtmklladpalcjpaaDoorCodU
namespace Go.Proofs.YtmklladpalcjpaaDoor
open Go.RowKit Cod
set_option linter.unusedVariables false

def lenV : Value → Nat
  | .slice _ n _ => n
  | _ => 0
theorem cell_kp {g : Nat} {w w' : World} {a : Addr} {u : Value} (h : w.cell? a = some u) (hk : Kp g w w') (hne : a.block ≠ g) : w'.cell? a = some u :=
  (World.cell?_of_block (hk.block a.block (World.block_lt_of_cell? w _ h) (fun e => hne (Option.some.inj e)))).trans h
theorem ownsRow_kp {g : Nat} {w w' : World} {base : Nat} {e : TypeId} {size : Nat} {v : Value} {n : Nat} {xs : List Value} (h : w.ownsRow base e size v n xs) (hk : Kp g w w') (hg : g < base) : w'.ownsRow base e size v n xs := by
  refine ⟨h.1, h.2.imp id ?_⟩
  rintro ⟨j, cap, cur, h1, h2, h3, h4⟩
  have hlt : j < w.heap.size := (Array.getElem?_eq_some_iff.1 h3).1
  exact ⟨j, cap, cur, h1, h2, by rw [hk.block j hlt (fun e => by have := Option.some.inj e; omega)]; exact h3, h4⟩
theorem Kids.kp {g B : Nat} {w w' : World} {v : Value} {acc : List Nd} (h : Kids B w v acc) (hk : Kp g w w') (hg : g < B) : Kids B w' v acc := by
  obtain ⟨C, h1, h2⟩ := h
  exact ⟨C, ownsRow_kp h1 hk hg, rdC_keep (fun n u hu => rdM_keep (fun j hj => ⟨hj.1, Nat.lt_of_lt_of_le hj.2.1 hk.size, hj.2.2⟩) (fun j o x hj hx => cell_kp hx hk (by have := hj.1; show j ≠ g; omega)) n u hu) acc C h2⟩
theorem Bn.kp {g r : Nat} {w w' : World} {v0 v1 v2 : Value} (h : Bn w r v0 v1 v2) (hk : Kp g w w') (hne : r ≠ g) : Bn w' r v0 v1 v2 := by
  have hb := hk.block r h.lt (fun e => hne (Option.some.inj e))
  exact ⟨(World.cell?_of_block (a := ⟨r, 0, none⟩) hb).trans h.1, (World.cell?_of_block (a := ⟨r, 1, none⟩) hb).trans h.2.1, (World.cell?_of_block (a := ⟨r, 2, none⟩) hb).trans h.2.2.1, (World.frozen?_of_block (a := ⟨r, 0, none⟩) hb).trans h.2.2.2.1, (World.frozen?_of_block (a := ⟨r, 1, none⟩) hb).trans h.2.2.2.2.1, (World.frozen?_of_block (a := ⟨r, 2, none⟩) hb).trans h.2.2.2.2.2⟩
theorem Kp.grown {g : Nat} {a w w' : World} {row : Option Nat} (h : Kp g a w) (hg : w.grownBy w' row) (hr : ∀ k, row = some k → a.heap.size ≤ k) : Kp g a w' :=
  ⟨hg.os.trans h.os, hg.tape.trans h.tape, hg.output.trans h.output, Nat.le_trans h.size hg.size, fun i hi hn => (hg.block i (Nat.lt_of_lt_of_le hi h.size) (fun e => by have := hr i e.symm; omega)).trans (h.block i hi hn)⟩
theorem Kp.up {g : Nat} {a w w' : World} (h : Kp g a w) (hb : Below w.heap.size w w') : Kp g a w' := h.trans (Kp.of_below hb)
theorem Kp.set {g : Nat} {a w : World} (h : Kp g a w) {r : Nat} (hr : a.heap.size ≤ r) (i : Nat) (u : Value) : Kp g a (w.setCell ⟨r, i, none⟩ u) :=
  ⟨h.os, h.tape, h.output, by simpa using h.size, fun k hk hn => (Below.heap_setCell _ _ _ _ (fun e => by have e : r = k := e.symm; omega)).trans (h.block k hk hn)⟩
theorem Rr.grown {g : Nat} {w w' : World} {row : Option Nat} {l : List UInt8} (h : Rr w g l) (hg : w.grownBy w' row) (hr : row ≠ some g) : Rr w' g l := by
  have hb := hg.block g h.lt (fun e => hr e.symm)
  exact ⟨(World.cell?_of_block (a := ⟨g, 0, none⟩) hb).trans h.1, (World.frozen?_of_block (a := ⟨g, 0, none⟩) hb).trans h.2⟩
theorem Rr.set {g : Nat} {w : World} {l : List UInt8} (h : Rr w g l) {r : Nat} (hr : r ≠ g) (i : Nat) (u : Value) : Rr (w.setCell ⟨r, i, none⟩ u) g l :=
  ⟨(World.cell?_setCell_other _ _ _ _ (fun e => hr (Addr.mk.inj e).1)).trans h.1, by simpa using h.2⟩
/-- What node answers at the element with this index. -/
def nodeR (b idx : Nat) (L : List UInt8) : Except Nat (Nd × List UInt8) :=
  if 256 ≤ idx then (match L with
    | [] => .error 4
    | c :: r => if begins c = true then .error 5 else .error 2) else pN b L
theorem nodeR_nil (b idx : Nat) : nodeR b idx [] = .error 4 := by
  unfold nodeR
  split
  · rfl
  · exact pN_nil b
theorem nodeR_two (b idx : Nat) (c : UInt8) (r : List UInt8) (h : begins c = false) : nodeR b idx (c :: r) = .error 2 := by
  unfold nodeR
  split
  · show (if begins c = true then _ else _) = _
    rw [if_neg (by rw [h]; simp)]
  · exact pN_no b c r h
theorem nodeR_five (b idx : Nat) (c : UInt8) (r : List UInt8) (h : begins c = true) (hb : b = 0 ∨ 256 ≤ idx) : nodeR b idx (c :: r) = .error 5 := by
  unfold nodeR
  split
  · show (if begins c = true then _ else _) = _
    rw [if_pos h]
  · rcases hb with rfl | hb
    · exact pN_zero c r h
    · omega
theorem nodeR_in (b idx : Nat) (L : List UInt8) (h : ¬ 256 ≤ idx) : nodeR b idx L = pN b L := by
  unfold nodeR
  exact if_neg h
/-- Between the rounds of list: T is what the whole call answers. -/
def KdA (T : Except Nat (List Nd × List UInt8)) (b : Nat) (acc : List Nd) (l : List UInt8) : Prop := acc.length ≤ 256 ∧ T = pre acc (pK (pN b) (256 - acc.length) l)
theorem KdA.start (b : Nat) (l : List UInt8) : KdA (pK (pN b) 256 l) b [] l := by
  refine ⟨by simp, ?_⟩
  show _ = pre [] (pK (pN b) 256 l)
  unfold pre
  cases pK (pN b) 256 l with
  | error e => rfl
  | ok q => rfl
theorem KdA.four {T : Except Nat (List Nd × List UInt8)} {b : Nat} {acc : List Nd} (h : KdA T b acc []) : T = .error 4 := by
  rw [h.2, pK_nil]
  rfl
theorem KdA.done {T : Except Nat (List Nd × List UInt8)} {b : Nat} {acc : List Nd} {c : UInt8} {r : List UInt8} (h : KdA T b acc (c :: r)) (hc : c = 41) : T = .ok (acc, r) := by
  rw [h.2, pK_close _ _ _ _ hc]
  unfold pre
  simp
theorem KdA.bad {T : Except Nat (List Nd × List UInt8)} {b x : Nat} {acc : List Nd} {c : UInt8} {r : List UInt8} (h : KdA T b acc (c :: r)) (hc : ¬ c = 41) (hx : nodeR b acc.length (c :: r) = .error x) : T = .error x := by
  have h1 := h.1
  rw [h.2]
  by_cases hl : 256 ≤ acc.length
  · have hl : acc.length = 256 := by omega
    rw [hl, Nat.sub_self, pK_full _ _ _ hc]
    unfold nodeR at hx
    rw [if_pos (by omega)] at hx
    have hx : (if begins c = true then (Except.error 5 : Except Nat (Nd × List UInt8)) else .error 2) = .error x := hx
    by_cases hb : begins c = true
    · rw [if_pos hb] at hx ⊢
      cases hx
      rfl
    · rw [if_neg hb] at hx ⊢
      cases hx
      rfl
  · rw [nodeR_in b _ _ hl] at hx
    obtain ⟨m, hm⟩ : ∃ m, 256 - acc.length = m + 1 := ⟨256 - acc.length - 1, by omega⟩
    rw [hm, pK_more _ _ _ _ hc, hx]
    rfl
theorem KdA.step {T : Except Nat (List Nd × List UInt8)} {b : Nat} {acc : List Nd} {n : Nd} {c : UInt8} {r l : List UInt8} (h : KdA T b acc (c :: r)) (hc : ¬ c = 41) (hx : nodeR b acc.length (c :: r) = .ok (n, l)) : KdA T b (acc ++ [n]) l ∧ acc.length < 256 ∧ l.length ≤ r.length + 1 := by
  have hl : ¬ 256 ≤ acc.length := fun hl => by
    unfold nodeR at hx
    rw [if_pos hl] at hx
    have hx : (if begins c = true then (Except.error 5 : Except Nat (Nd × List UInt8)) else .error 2) = .ok (n, l) := hx
    split at hx <;> cases hx
  rw [nodeR_in b _ _ hl] at hx
  obtain ⟨u, _, e⟩ := pN_inv b _ _ _ hx
  have e1 := congrArg List.length e
  rw [List.length_cons, List.length_append] at e1
  refine ⟨⟨by simp; omega, ?_⟩, by omega, by omega⟩
  obtain ⟨m, hm⟩ : ∃ m, 256 - acc.length = m + 1 := ⟨256 - acc.length - 1, by omega⟩
  have hm' : 256 - (acc ++ [n]).length = m := by simp; omega
  rw [h.2, hm, hm', pK_more _ _ _ _ hc]
  simp only [hx]
  unfold pre
  cases pK (pN b) m l with
  | error e => rfl
  | ok q => simp
/-- What node leaves. -/
def NodeEnd (g : Nat) (R : Except Nat (Nd × List UInt8)) (w : World) (e : Ending) (w' : World) : Prop :=
  match R with
  | .ok (n, r) => ∃ (l : Bool) (t : ByteArray) (A : Option Addr) (m c : Nat), e = .returned (.agg #[.bool l, .string t, .slice A m c]) ∧ RdM (fun k => w.heap.size ≤ k) w' n (.agg #[.bool l, .string t, .slice A m c]) ∧ Rr w' g r ∧ Kp g w w'
  | .error x => e = PanE x ∧ Kp g w w'
theorem NodeEnd.err {g : Nat} {R : Except Nat (Nd × List UInt8)} {w w' : World} {x : Nat} (h : R = .error x) (hk : Kp g w w') : NodeEnd g R w (PanE x) w' := by subst h; exact ⟨rfl, hk⟩
/-- What list leaves. -/
def LstEnd (g : Nat) (R : Except Nat (List Nd × List UInt8)) (w : World) (e : Ending) (w' : World) : Prop :=
  match R with
  | .ok (k, r) => ∃ (A : Option Addr) (m c : Nat), e = .returned (.slice A m c) ∧ RdMS (fun j => w.heap.size ≤ j) w' k (.slice A m c) ∧ Rr w' g r ∧ Kp g w w'
  | .error x => e = PanE x ∧ Kp g w w'
theorem LstEnd.err {g : Nat} {R : Except Nat (List Nd × List UInt8)} {w w' : World} {x : Nat} (h : R = .error x) (hk : Kp g w w') : LstEnd g R w (PanE x) w' := by subst h; exact ⟨rfl, hk⟩
/-- node, at the level that leaves the budget b. -/
def NodeC (b : Nat) : Prop := ∀ (g idx : Nat) (z : Int) (L : List UInt8) (W : World), z + (b : Int) = 13 → 1 ≤ z → idx ≤ 256 → L.length ≤ 20000 → Rr W g L → Calls Tryd.prog 28 #[.pointer (some ⟨g, 0, none⟩), .int .i64 z, .int .i64 (idx : Int)] W (NodeEnd g (nodeR b idx L) W)
theorem NodeC.use {b : Nat} (h : NodeC b) : ∀ (g idx : Nat) (z : Int) (L : List UInt8) (W : World), z + (b : Int) = 13 → 1 ≤ z → idx ≤ 256 → L.length ≤ 20000 → Rr W g L → Calls Tryd.prog 28 #[.pointer (some ⟨g, 0, none⟩), .int .i64 z, .int .i64 (idx : Int)] W (NodeEnd g (nodeR b idx L) W) := h
set_option maxRecDepth 20000 in
set_option maxHeartbeats 2000000 in
theorem list_walk (b : Nat) (IH : Hid (NodeC b)) (g : Nat) (z : Int) (c0 : UInt8) (L : List UInt8) (w : World) (hz : Hid (z + (b : Int) = 13)) (hz1 : 1 ≤ z) (hzs : z ≤ 13) (hl : L.length ≤ 19999) (h : Rr w g (c0 :: L)) :
    Calls Tryd.prog 36 #[.pointer (some ⟨g, 0, none⟩), .int .i64 z] w (LstEnd g (pK (pN b) 256 L) w) := by
  obtain ⟨i0, hi0, hz0, hz1', hz2⟩ := info_parts info_node
  have hgB : g < w.heap.size := h.lt
  obtain ⟨T, hT⟩ : ∃ T, pK (pN b) 256 L = T := ⟨_, rfl⟩
  have hA := KdA.start b L
  rw [hT] at hA ⊢
  have hA := Lib.hid hA
  have K := Kp.refl g w
  have KK : Kids w.heap.size w (.slice none 0 0) [] := Kids.start _ _
  clear hT
  go_enter Tryd.func36, Tryd.ntmps36
  go_wp2_with (first | (go_at_call 40; (with_reducible refine (skip_cons g c0 L _ h (by omega)).mono ?_); rintro e w3 ⟨rfl, rfl⟩; have K := K.trans (Kp.put g _ (.string (ofL L))); have hr := h.put L; have KK : Kids w.heap.size (w.setCell ⟨g, 0, none⟩ (.string (ofL L))) (.slice none 0 0) [] := Kids.start _ _))
  go_loopw [5] (fun y wr => ∃ (N c : Nat) (acc : List Nd) (A : Option Addr) (l : List UInt8), y = .slice A N c ∧ Hid (acc.length = N) ∧ N ≤ 256 ∧ Hid (KdA T b acc l) ∧ l.length ≤ 19999 ∧ Kids w.heap.size wr (.slice A N c) acc ∧ Rr wr g l ∧ Kp g w wr ∧ w.heap.size ≤ wr.heap.size) (fun y _ => 257 - lenV y)
  case atStart => exact ⟨0, 0, [], none, L, rfl, Lib.hid rfl, by omega, hA, hl, KK, hr, K, K.size⟩
  case round =>
    clear hA K KK hr h
    obtain ⟨N, cc, acc, A, l, rfl, hN, hN6, hA, hll, KK, hr, K, hBs⟩ := hrel
    cases l with
    | nil =>
      have hT := Lib.hid hA.out.four
      go_wp2_with (first | (go_at_call 34; (with_reducible refine (peek_nil g _ hr).mono ?_); rintro e w1 ⟨rfl, rfl⟩))
      exact ⟨rfl, LstEnd.err hT.out K⟩
    | cons c r =>
      rw [List.length_cons] at hll
      by_cases hc : c = 41
      · have hT := Lib.hid (hA.out.done hc)
        have hcb : ((c.toNat : Int) != 41) = false := by rw [hc]; rfl
        clear hc
        go_wp2_with (first | (go_at_call 34; (with_reducible refine (peek_cons g c r _ hr).mono ?_); rintro e w1 ⟨rfl, rfl⟩) | (go_at_call 40; (with_reducible refine (skip_cons g c r _ hr (by omega)).mono ?_); rintro e w3 ⟨rfl, rfl⟩; have KK := KK.kp (Kp.put g _ (.string (ofL r))) hgB; have K := K.trans (Kp.put g _ (.string (ofL r))); have hr := hr.put r))
        go_ret
        rw [hT.out]
        exact ⟨A, N, cc, rfl, KK.reads, hr, K⟩
      · have hcb : ((c.toNat : Int) != 41) = true := by
          have : ¬ c.toNat = 41 := fun e => hc (UInt8.toNat_inj.1 e)
          simp
          omega
        cases hx : nodeR b N (c :: r) with
        | error x =>
          have hT := Lib.hid (hA.out.bad hc (by rw [hN.out]; exact hx))
          have Hx := Lib.hid hx
          clear hx hc
          go_wp2_with (first | (go_at_call 34; (with_reducible refine (peek_cons g c r _ hr).mono ?_); rintro e w1 ⟨rfl, rfl⟩) | (go_at_call 28; (with_reducible refine (IH.out.use g N z (c :: r) _ hz.out hz1 (by omega) (by rw [List.length_cons]; omega) hr).mono ?_); rw [Hx.out]; rintro e w2 ⟨rfl, bb⟩; have K := K.trans bb; clear bb))
          exact ⟨rfl, LstEnd.err hT.out K⟩
        | ok q =>
          obtain ⟨n, l'⟩ := q
          have hS0 := hA.out.step hc (by rw [hN.out]; exact hx)
          have hN5 : N < 256 := by have := hS0.2.1; have := hN.out; omega
          have hl' : l'.length ≤ 19999 := by have := hS0.2.2; omega
          have hS := Lib.hid hS0.1
          have Hx := Lib.hid hx
          clear hx hc hS0
          go_wp2_with (first | (go_at_call 34; (with_reducible refine (peek_cons g c r _ hr).mono ?_); rintro e w1 ⟨rfl, rfl⟩) | (go_at_call 28; (with_reducible refine (IH.out.use g N z (c :: r) _ hz.out hz1 (by omega) (by rw [List.length_cons]; omega) hr).mono ?_); rw [Hx.out]; rintro e w2 ⟨l1, t1, A1, m1, c1, rfl, hM, hr, bb⟩; have hM := Lib.hid (KK.new hBs hM); have KK := KK.kp bb hgB; have hBs := Nat.le_trans hBs bb.size; have K := K.trans bb; clear bb) | (at_builtin; obtain ⟨C, hrow, hC⟩ := (KK.below (up_1 _ (.cells #[.bool l1, .string t1, .slice A1 m1 c1] 25))); have hN4 := hM.out.wider (up_1 _ (.cells #[.bool l1, .string t1, .slice A1 m1 c1] 25)); rw [hN.out] at hrow; refine wpList_append_lies _ rfl (.tmp 11) (.tmp 17) 23 rfl w.heap.size 25 i0 (.agg #[.bool false, .string ⟨#[]⟩, .slice none 0 0]) 3 48 Tryd.underlying23 hi0 hz0 hz1' hz2 rfl (by decide) _ N C rfl hrow ⟨_, 0, none⟩ 1 1 [.bool l1, .string t1, .slice A1 m1 c1] rfl rfl (lit_cells3 _ _ _ _ _ _ (by simp)) (one3 l1 t1 A1 m1 c1) (by decide) (by unfold maxLen; omega) (by omega) (by simp; omega) _ rfl ?_; intro g' cap' w4 hrow4 hg4 hat4 hlt4; have hr := (hr.below (up_1 _ (.cells #[.bool l1, .string t1, .slice A1 m1 c1] 25))).grown hg4 (fun e => by have := (hrow.lt _ e).1; omega); have K := (K.up (up_1 _ (.cells #[.bool l1, .string t1, .slice A1 m1 c1] 25))).grown hg4 (fun k hk => (hrow.lt k hk).1); have hs4 := hg4.size; clear hrow))
          go_roundw
          case rel =>
            have e := hN.out
            subst e
            have K4 := Kids.append hC hN4 hrow4 hg4 hat4 rfl
            exact ⟨acc.length + 1, cap', acc ++ [n], some ⟨g', 0, none⟩, l', rfl, Lib.hid (by simp), by omega, hS, hl', K4, hr, K, by simp at hs4; omega⟩
          case measure => simp [lenV]; omega
end Go.Proofs.YtmklladpalcjpaaDoor
