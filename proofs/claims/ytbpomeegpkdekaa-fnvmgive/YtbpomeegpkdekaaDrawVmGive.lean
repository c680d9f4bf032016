/- The draw of a machine, an ask, bytes and a flag: whatever is drawn reads. Conditions: the bytes read. -/
import Derived.Test.YtbpomeegpkdekaaDrawState
import Derived.Test.YtbpomeegpkdekaaDrawMes
import Derived.Test.YtbpomeegpkdekaaDrawOp
import Derived.Test.YtbpomeegpkdekaaRegE
namespace Go.Proofs.Ytbpomeegpkdekaa
open Go.ChangeShapes Go.WideShapes Go.ChangeAt Go.RowKit Go.Joins Go.Deep
set_option linter.unusedVariables false
set_option linter.unusedSimpArgs false
set_option maxRecDepth 4000
def ask6 (w : World) (b : Nat) (v0 v1 v2 v3 v4 v5 : Value) : World := (((((w.setCell ⟨b, 0, none⟩ v0).setCell ⟨b, 1, none⟩ v1).setCell ⟨b, 2, none⟩ v2).setCell ⟨b, 3, none⟩ v3).setCell ⟨b, 4, none⟩ v4).setCell ⟨b, 5, none⟩ v5
theorem vb6V {w : World} {b : Nat} {y0 y1 y2 y3 y4 y5 : Value} (h : VB w b [y0, y1, y2, y3, y4, y5]) : w.cell? ⟨b, 0, none⟩ = some y0 ∧ w.cell? ⟨b, 1, none⟩ = some y1 ∧ w.cell? ⟨b, 2, none⟩ = some y2 ∧ w.cell? ⟨b, 3, none⟩ = some y3 ∧ w.cell? ⟨b, 4, none⟩ = some y4 ∧ w.cell? ⟨b, 5, none⟩ = some y5 :=
  ⟨h.1 0 (by simp), h.1 1 (by simp), h.1 2 (by simp), h.1 3 (by simp), h.1 4 (by simp), h.1 5 (by simp)⟩
theorem vbset6V {w : World} {b : Nat} {y0 y1 y2 y3 y4 y5 : Value} (v0 v1 v2 v3 v4 v5 : Value) (h : VB w b [y0, y1, y2, y3, y4, y5]) : VB (ask6 w b v0 v1 v2 v3 v4 v5) b [v0, v1, v2, v3, v4, v5] := by
  have H := h.set (i := 0) (by simp) v0
  have H := H.set (i := 1) (by simp) v1
  have H := H.set (i := 2) (by simp) v2
  have H := H.set (i := 3) (by simp) v3
  have H := H.set (i := 4) (by simp) v4
  have H := H.set (i := 5) (by simp) v5
  unfold ask6
  simpa using H
theorem vbchg6V {S : Nat → Prop} {w : World} {b : Nat} (v0 v1 v2 v3 v4 v5 : Value) (hs : S b) : Chg S w (ask6 w b v0 v1 v2 v3 v4 v5) := by
  have H := Chg.refl S w
  have H := H.set (p := ⟨b, 0, none⟩) hs v0
  have H := H.set (p := ⟨b, 1, none⟩) hs v1
  have H := H.set (p := ⟨b, 2, none⟩) hs v2
  have H := H.set (p := ⟨b, 3, none⟩) hs v3
  have H := H.set (p := ⟨b, 4, none⟩) hs v4
  have H := H.set (p := ⟨b, 5, none⟩) hs v5
  exact H
def vm4 (w : World) (b : Nat) (v0 v1 v2 v3 : Value) : World := (((w.setCell ⟨b, 0, none⟩ v0).setCell ⟨b, 1, none⟩ v1).setCell ⟨b, 2, none⟩ v2).setCell ⟨b, 3, none⟩ v3
theorem own_chgV {w w' : World} {B : Nat} {v : Value} {xs : List Int} {S : Nat → Prop} (h : Own w B v xs) (hg : Chg S w w') (hr : ∀ j, B ≤ j → ¬ S j) : Own w' B v xs := by
  have hb := h.blk
  obtain ⟨h0, h1, h2⟩ := h
  refine ⟨h0, h1, ?_⟩
  rcases h2 with h2 | ⟨g, cap, cur, hv, hgB, hh, hn⟩
  · exact .inl h2
  · have hl : g < w.heap.size := by
      rcases Nat.lt_or_ge g w.heap.size with h | h
      · exact h
      · rw [Array.getElem?_eq_none h] at hh; cases hh
    exact .inr ⟨g, cap, cur, hv, hgB, (hg.block g hl (hr g hgB)).trans hh, hn⟩
theorem own_grownV {w w' : World} {B g : Nat} {v : Value} {xs : List Int} (h : Own w B v xs) (hg : w.grownBy w' (some g)) (hB : g < B) : Own w' B v xs :=
  h.grown hg (fun k hk => by simp at hk; omega)
theorem ownI_grownV {e : TypeId} {k n : Nat} {w w' : World} {B g : Nat} {v : Value} {xs : List Int} (h : OwnI e k w B v n xs) (hg : w.grownBy w' (some g)) (hB : g < B) : OwnI e k w' B v n xs :=
  h.grown hg (fun j hj he => by have := (h.blk j he).1; simp at hj; omega)
theorem ext_of {R g lo : Nat} {w w' : World} {x : Value} {ys : List Int} (hg : Chg (fun j => j = R) w w') (hc : w.cell? ⟨R, ys.length, none⟩ = some x) (hx : ∀ n : Int, ¬ x = .int .i64 n) (h' : IB w' R ys) : Ext g lo w w' := by
  rintro b n ⟨h1, h2, xs, h3, h4⟩
  by_cases hb : R = b
  · subst hb
    have hn : n ≤ ys.length := by
      rcases Nat.lt_or_ge ys.length n with hk | hk
      · have e1 := h4.1 ys.length (by omega)
        rw [hc] at e1
        exact absurd (Option.some.inj e1) (hx _)
      · exact hk
    refine ⟨h1, h2, ys.take n, by simp; omega, fun i hi => ?_, h'.2.1, h'.2.2⟩
    simp at hi
    rw [h'.1 i (by omega)]
    have hi2 : i < ys.length := by omega
    simp [List.getElem?_take, hi, hi2]
  · exact ⟨h1, h2, xs, h3, fun i hi => hg.cell (fun e => hb e.symm) (h4.1 i hi), fun o => (World.frozen?_of_block (hg.block b h4.2.2 (fun e => hb e.symm))).trans (h4.2.1 o), Nat.lt_of_lt_of_le h4.2.2 hg.size⟩
/-- the ask's block: no bytes yet -/
def AskNil (B : Nat) (w : World) : Prop := ∃ k y t h f : Int, VB w B [.int .i64 k, .int .i64 y, .slice none 0 0, .int .i64 t, .int .i64 h, .int .i64 f]
/-- the ask's block, its bytes in memory from T on -/
def AskHas (B T : Nat) (w : World) : Prop := ∃ (k y t h f : Int) (a : Option Addr) (c : Nat) (bs : List Int), VB w B [.int .i64 k, .int .i64 y, .slice a bs.length c, .int .i64 t, .int .i64 h, .int .i64 f] ∧ Own w T (.slice a bs.length c) bs ∧ bs.length ≤ 9
def AskV (T : Nat) (v : Value) (w : World) : Prop := ∃ (k y t h f : Int) (a : Option Addr) (c : Nat) (bs : List Int), v = .agg #[.int .i64 k, .int .i64 y, .slice a bs.length c, .int .i64 t, .int .i64 h, .int .i64 f] ∧ Own w T (.slice a bs.length c) bs ∧ bs.length ≤ 9
def StBk (R : Nat) (w : World) : Prop := ∃ (pc ht : Int) (a1 a2 : Option Addr) (n1 c1 n2 c2 : Nat), VB w R [.int .i64 pc, .slice a1 n1 c1, .slice a2 n2 c2, .int .i64 ht]
def AkBk (R : Nat) (w : World) : Prop := ∃ (k y t h f : Int) (a : Option Addr) (n c : Nat), VB w R [.int .i64 k, .int .i64 y, .slice a n c, .int .i64 t, .int .i64 h, .int .i64 f]
/-- what stands by: the results' blocks, the machine and its rows -/
def GX (R T L : Nat) (pc ht : Int) (u v : Value) (m : Nat) (w : World) : Prop := T < w.heap.size ∧ StBk R w ∧ AkBk (R + 1) w ∧ VB w T [.int .i64 pc, u, v, .int .i64 ht] ∧ ∃ xs ys, OwnI 3 1 w L u 4 xs ∧ OwnI 3 1 w L v m ys
theorem gx_stands {R T L g m : Nat} {pc ht : Int} {u v : Value} (h1 : R + 1 < g) (h2 : g < L) (h3 : L ≤ T) : Stands g (GX R T L pc ht u v m) := by
  rintro w w' hb ⟨k0, ⟨_, _, _, _, _, _, _, _, k1⟩, ⟨_, _, _, _, _, _, _, _, k2⟩, k3, xs, ys, k4, k5⟩
  exact ⟨Nat.lt_of_lt_of_le k0 hb.size, ⟨_, _, _, _, _, _, _, _, k1.grown hb (by simp; omega)⟩, ⟨_, _, _, _, _, _, _, _, k2.grown hb (by simp; omega)⟩, k3.grown hb (by simp; omega), xs, ys, ownI_grownV k4 hb h2, ownI_grownV k5 hb h2⟩
theorem gx_chg {R T L m b : Nat} {pc ht : Int} {u v : Value} {w w' : World} (h : GX R T L pc ht u v m w) (hg : Chg (fun j => j = b) w w') (hT : T < b) (hR : R + 1 < T) (hu : ∀ j, u.ownBlock = some j → j < T) (hv : ∀ j, v.ownBlock = some j → j < T) : GX R T L pc ht u v m w' := by
  obtain ⟨k0, ⟨_, _, _, _, _, _, _, _, k1⟩, ⟨_, _, _, _, _, _, _, _, k2⟩, k3, xs, ys, k4, k5⟩ := h
  exact ⟨Nat.lt_of_lt_of_le k0 hg.size, ⟨_, _, _, _, _, _, _, _, k1.chg hg (by first | omega | (dsimp only; omega))⟩, ⟨_, _, _, _, _, _, _, _, k2.chg hg (by first | omega | (dsimp only; omega))⟩, k3.chg hg (by first | omega | (dsimp only; omega)), xs, ys, k4.chg hg (fun j hj => by have := hu j hj; first | omega | (dsimp only; omega)), k5.chg hg (fun j hj => by have := hv j hj; first | omega | (dsimp only; omega))⟩
theorem ak_stands {B g : Nat} (h : ¬ B = g) : Stands g (AskNil B) := by
  rintro w w' hb ⟨k, y, t, hh, f, hv⟩
  exact ⟨k, y, t, hh, f, hv.grown hb (by simpa using h)⟩
theorem ah_stands {B T g : Nat} (h : ¬ B = g) (hT : g < T) : Stands g (AskHas B T) := by
  rintro w w' hb ⟨k, y, t, hh, f, a, c, bs, hv, ho, hl⟩
  exact ⟨k, y, t, hh, f, a, c, bs, hv.grown hb (by simpa using h), own_grownV ho hb hT, hl⟩
theorem ah_chg {B T : Nat} {w w' : World} {S : Nat → Prop} (h : AskHas B T w) (hg : Chg S w w') (hB : ¬ S B) (hT : ∀ j, T ≤ j → ¬ S j) : AskHas B T w' := by
  obtain ⟨k, y, t, hh, f, a, c, bs, hv, ho, hl⟩ := h
  exact ⟨k, y, t, hh, f, a, c, bs, hv.chg hg hB, own_chgV ho hg hT, hl⟩
def LE (T : Nat) : Nat → Value → World → Prop
  | 13, v, _ => ∃ k y t h f : Int, v = .agg #[.int .i64 k, .int .i64 y, .slice none 0 0, .int .i64 t, .int .i64 h, .int .i64 f]
  | 14, v, w => ∃ b, v = .pointer (some ⟨b, 0, none⟩) ∧ T < b ∧ AskNil b w
  | _, _, _ => True
theorem le_stands {T g : Nat} (h : g < T) : EStands g (LE T) := by
  intro j v w w' hb hh
  unfold LE at hh ⊢
  split
  · exact hh
  · obtain ⟨b, h1, h2, h3⟩ := hh
    exact ⟨b, h1, h2, ak_stands (by omega) _ _ hb h3⟩
  · trivial
def TE (R T : Nat) (pc ht : Int) (u x : Value) : Nat → Value → World → Prop
  | 1, v, w => AskV T v w
  | 3, v, w => ∃ xs, Own w T v xs ∧ xs.length ≤ 9
  | 7, _, w => VB w R [.int .i64 pc, u, x, .int .i64 ht]
  | 8, _, w => AskHas (R + 1) T w
  | 9, v, w => ∃ xs, Own w T v xs ∧ xs.length ≤ 9
  | _, _, _ => True
theorem te_stands {R T g : Nat} {pc ht : Int} {u x : Value} (h : R + 1 < g) (hT : g < T) : EStands g (TE R T pc ht u x) := by
  intro j v w w' hb hh
  unfold TE at hh ⊢
  split
  · obtain ⟨k, y, t, h', f, a, c, bs, h1, h2, h3⟩ := hh
    exact ⟨k, y, t, h', f, a, c, bs, h1, own_grownV h2 hb hT, h3⟩
  · obtain ⟨xs, h1, h2⟩ := hh
    exact ⟨xs, own_grownV h1 hb hT, h2⟩
  · exact hh.grown hb (by simp; omega)
  · exact ah_stands (by omega) hT _ _ hb hh
  · obtain ⟨xs, h1, h2⟩ := hh
    exact ⟨xs, own_grownV h1 hb hT, h2⟩
  · trivial
theorem te_chg {R T b j : Nat} {pc ht : Int} {u x v : Value} {w w' : World} (hh : TE R T pc ht u x j v w) (hg : Chg (fun j => j = b) w w') (hb : b < T) (h7 : j = 7 → ¬ b = R) (h8 : j = 8 → ¬ b = R + 1) : TE R T pc ht u x j v w' := by
  have hT : ∀ j, T ≤ j → ¬ j = b := fun j hj => by omega
  unfold TE at hh ⊢
  split
  · obtain ⟨k, y, t, h', f, a, c, bs, h1, h2, h3⟩ := hh
    exact ⟨k, y, t, h', f, a, c, bs, h1, own_chgV h2 hg hT, h3⟩
  · obtain ⟨xs, h1, h2⟩ := hh
    exact ⟨xs, own_chgV h1 hg hT, h2⟩
  · exact hh.chg hg (fun e => h7 rfl e.symm)
  · exact ah_chg hh hg (fun e => h8 rfl e.symm) hT
  · obtain ⟨xs, h1, h2⟩ := hh
    exact ⟨xs, own_chgV h1 hg hT, h2⟩
  · trivial
theorem st_ask {b : Nat} {w : World} {k' y' t' h' f' : Int} {a' : Option Addr} {n' c' : Nat} (hv : VB w b [.int .i64 k', .int .i64 y', .slice a' n' c', .int .i64 t', .int .i64 h', .int .i64 f']) (k y t h f : Int) (a : Option Addr) (n c : Nat) :
    (Instr.storeAt 30 (.pointer (some ⟨b, 0, none⟩)) (.agg #[.int .i64 k, .int .i64 y, .slice a n c, .int .i64 t, .int .i64 h, .int .i64 f])).run Try.prog w = .ok () (ask6 w b (.int .i64 k) (.int .i64 y) (.slice a n c) (.int .i64 t) (.int .i64 h) (.int .i64 f)) := by
  obtain ⟨x0, x1, x2, x3, x4, x5⟩ := vb6V hv
  have ff := hv.2.1
  unfold ask6
  clear hv
  go_simp
theorem st_vm {b : Nat} {w : World} (hv : StBk b w) (pc ht : Int) (a1 a2 : Option Addr) (n1 c1 n2 c2 : Nat) :
    (Instr.storeAt 25 (.pointer (some ⟨b, 0, none⟩)) (.agg #[.int .i64 pc, .slice a1 n1 c1, .slice a2 n2 c2, .int .i64 ht])).run Try.prog w = .ok () (vm4 w b (.int .i64 pc) (.slice a1 n1 c1) (.slice a2 n2 c2) (.int .i64 ht)) := by
  obtain ⟨_, _, _, _, _, _, _, _, hv⟩ := hv
  obtain ⟨x0, x1, x2, x3⟩ := vb4 hv
  have ff := hv.2.1
  unfold vm4
  clear hv
  go_simp
theorem ld_vm {b : Nat} {x y z t : Value} {w : World} (h : VB w b [x, y, z, t]) : (Instr.loadAt 25 (.pointer (some ⟨b, 0, none⟩))).run Try.prog w = .ok (.agg #[x, y, z, t]) w := by
  obtain ⟨x0, x1, x2, x3⟩ := vb4 h
  clear h
  go_simp
theorem ld_ask {b : Nat} {x0 x1 x2 x3 x4 x5 : Value} {w : World} (h : VB w b [x0, x1, x2, x3, x4, x5]) : (Instr.loadAt 30 (.pointer (some ⟨b, 0, none⟩))).run Try.prog w = .ok (.agg #[x0, x1, x2, x3, x4, x5]) w := by
  obtain ⟨e0, e1, e2, e3, e4, e5⟩ := vb6V h
  clear h
  go_simp
theorem ask_field0 {B : Nat} (w : World) (z : Int) (h : AskNil B w) : (Instr.storeAt 3 (.pointer (some ⟨B, 0, none⟩)) (.int .i64 z)).run Try.prog w = .ok () (w.setCell ⟨B, 0, none⟩ (.int .i64 z)) ∧ AskNil B (w.setCell ⟨B, 0, none⟩ (.int .i64 z)) := by
  obtain ⟨k, y, t, hh, f, hv⟩ := h
  obtain ⟨e0, e1, e2, e3, e4, e5⟩ := vb6V hv
  have ff := hv.2.1
  refine ⟨?_, z, y, t, hh, f, hv.set (i := 0) (by simp) _⟩
  clear hv
  go_simp
theorem ask_field1 {B : Nat} (w : World) (z : Int) (h : AskNil B w) : (Instr.storeAt 3 (.pointer (some ⟨B, 1, none⟩)) (.int .i64 z)).run Try.prog w = .ok () (w.setCell ⟨B, 1, none⟩ (.int .i64 z)) ∧ AskNil B (w.setCell ⟨B, 1, none⟩ (.int .i64 z)) := by
  obtain ⟨k, y, t, hh, f, hv⟩ := h
  obtain ⟨e0, e1, e2, e3, e4, e5⟩ := vb6V hv
  have ff := hv.2.1
  refine ⟨?_, k, z, t, hh, f, hv.set (i := 1) (by simp) _⟩
  clear hv
  go_simp
theorem ask_field3 {B : Nat} (w : World) (z : Int) (h : AskNil B w) : (Instr.storeAt 3 (.pointer (some ⟨B, 3, none⟩)) (.int .i64 z)).run Try.prog w = .ok () (w.setCell ⟨B, 3, none⟩ (.int .i64 z)) ∧ AskNil B (w.setCell ⟨B, 3, none⟩ (.int .i64 z)) := by
  obtain ⟨k, y, t, hh, f, hv⟩ := h
  obtain ⟨e0, e1, e2, e3, e4, e5⟩ := vb6V hv
  have ff := hv.2.1
  refine ⟨?_, k, y, z, hh, f, hv.set (i := 3) (by simp) _⟩
  clear hv
  go_simp
theorem ask_field4 {B : Nat} (w : World) (z : Int) (h : AskNil B w) : (Instr.storeAt 3 (.pointer (some ⟨B, 4, none⟩)) (.int .i64 z)).run Try.prog w = .ok () (w.setCell ⟨B, 4, none⟩ (.int .i64 z)) ∧ AskNil B (w.setCell ⟨B, 4, none⟩ (.int .i64 z)) := by
  obtain ⟨k, y, t, hh, f, hv⟩ := h
  obtain ⟨e0, e1, e2, e3, e4, e5⟩ := vb6V hv
  have ff := hv.2.1
  refine ⟨?_, k, y, t, z, f, hv.set (i := 4) (by simp) _⟩
  clear hv
  go_simp
theorem ask_field5 {B : Nat} (w : World) (z : Int) (h : AskNil B w) : (Instr.storeAt 3 (.pointer (some ⟨B, 5, none⟩)) (.int .i64 z)).run Try.prog w = .ok () (w.setCell ⟨B, 5, none⟩ (.int .i64 z)) ∧ AskNil B (w.setCell ⟨B, 5, none⟩ (.int .i64 z)) := by
  obtain ⟨k, y, t, hh, f, hv⟩ := h
  obtain ⟨e0, e1, e2, e3, e4, e5⟩ := vb6V hv
  have ff := hv.2.1
  refine ⟨?_, k, y, t, hh, z, hv.set (i := 5) (by simp) _⟩
  clear hv
  go_simp
theorem res_drawVm {W : World} {b c : Nat} {x0 x1 x2 x3 y0 y1 y2 y3 y4 y5 p q : Value} (tmps : Array Value) (ht : tmps[2]?.getD undef = .pointer (some ⟨b, 0, none⟩)) (ht' : tmps[3]?.getD undef = .pointer (some ⟨c, 0, none⟩)) (h1 : VB W b [x0, x1, x2, x3]) (h2 : VB W c [y0, y1, y2, y3, y4, y5]) (hp : tmps[4]?.getD undef = p) (hq : tmps[5]?.getD undef = q) :
    (results Try.f23 tmps).run Try.prog W = .ok (.tuple #[.agg #[x0, x1, x2, x3], .agg #[y0, y1, y2, y3, y4, y5], p, q]) W := by
  obtain ⟨e0, e1, e2, e3⟩ := vb4 h1
  obtain ⟨d0, d1, d2, d3, d4, d5⟩ := vb6V h2
  simp [results, Try.results23, go_sem, ht, ht', hp, hq, e0, e1, e2, e3, d0, d1, d2, d3, d4, d5]
def DrawVmGivePost (w : World) (e : Ending) (w' : World) : Prop :=
  ∃ (pc ht : Int) (u v : Value) (k y t h f : Int) (a : Option Addr) (c : Nat) (gv : Value) (yes : Bool) (m : Nat) (xs ys bs got : List Int), e = .returned (.tuple #[.agg #[.int .i64 pc, u, v, .int .i64 ht], .agg #[.int .i64 k, .int .i64 y, .slice a bs.length c, .int .i64 t, .int .i64 h, .int .i64 f], gv, .bool yes]) ∧ RdI 1 w' u 4 xs ∧ RdI 1 w' v m ys ∧ m ≤ 9 ∧ Rd w' (.slice a bs.length c) bs ∧ bs.length ≤ 9 ∧ Rd w' gv got ∧ got.length ≤ 9 ∧ Below w.heap.size w w'
set_option maxHeartbeats 16000000 in
theorem drawVmGive_any (a : Option Addr) (len cap : Nat) (zs : List Int) (w : World) (hn : zs.length = len) (hv : Rd w (.slice a len cap) zs) (hcap : len ≤ cap) :
    Calls Try.prog 23 #[.slice a len cap] w fun e w' => DrawVmGivePost w e w' := by
  have HV := hid hv
  have V2 := hid ((vb_new w [.int .i64 0, .slice none 0 0, .slice none 0 0, .int .i64 0] 25).keep (below_alloc1 _ (.cells #[.int .i64 0, .int .i64 0, .slice none 0 0, .int .i64 0, .int .i64 0, .int .i64 0] 30)))
  have V3 : Hid (VB ((w.alloc (.cells #[.int .i64 0, .slice none 0 0, .slice none 0 0, .int .i64 0] 25)).alloc (.cells #[.int .i64 0, .int .i64 0, .slice none 0 0, .int .i64 0, .int .i64 0, .int .i64 0] 30)) (w.heap.size + 1) [.int .i64 0, .int .i64 0, .slice none 0 0, .int .i64 0, .int .i64 0, .int .i64 0]) := hid (by have h := vb_new (w.alloc (.cells #[.int .i64 0, .slice none 0 0, .slice none 0 0, .int .i64 0] 25)) [.int .i64 0, .int .i64 0, .slice none 0 0, .int .i64 0, .int .i64 0, .int .i64 0] 30; rw [World.size_alloc] at h; exact h)
  have z0 : ((w.alloc (.cells #[.int .i64 0, .slice none 0 0, .slice none 0 0, .int .i64 0] 25)).alloc (.cells #[.int .i64 0, .int .i64 0, .slice none 0 0, .int .i64 0, .int .i64 0, .int .i64 0] 30)).heap.size = w.heap.size + 2 := by simp
  have Z0 := hid z0
  clear hv z0
  go_enter Try.func23, Try.ntmps23
  go_wp2_with fail
  refine (open_dvc (K := 1) a len cap zs w _ hn HV.out hcap (below_alloc2 w _ _)).mono ?_
  rw [Z0.out]
  rintro e w1 ⟨rfl, D1, B1⟩
  have V2 := hid (V2.out.keep (by rw [Z0.out]; exact B1.out))
  have V3 := hid (V3.out.keep (by rw [Z0.out]; exact B1.out))
  clear HV hn hcap B1
  obtain ⟨g, hg⟩ : ∃ g, w.heap.size + 2 = g := ⟨_, rfl⟩
  rw [hg] at D1 ⊢
  have HG : Hid (w.heap.size + 1 < g) := hid (by omega)
  have HGL := hid D1.out.rd_lt
  clear hg Z0
  obtain ⟨q1, hq1, rd1⟩ := D1.out.1
  have RD1 := hid rd1
  clear rd1
  go_wp2_with fail
  refine (drawState_any _ _ g q1 9 RD1.out (by omega) (by omega)).mono ?_
  rintro e w2 ⟨pc, ht, u, v, rfl, m, xs, ys, o1, o2, hm9, ⟨q2, hq2, rd2⟩, gr⟩
  obtain ⟨a1, c1, rfl, _⟩ := ownI_form o1
  obtain ⟨a2, c2, rfl, _⟩ := ownI_form o2
  obtain ⟨L, hL⟩ : ∃ L, w1.heap.size = L := ⟨_, rfl⟩
  obtain ⟨T, hT⟩ : ∃ T, w2.heap.size = T := ⟨_, rfl⟩
  have HLT : Hid (L ≤ T) := hid (by have := gr.size; omega)
  have HU : Hid (∀ j, (Value.slice a1 4 c1).ownBlock = some j → j < T) := hid (fun j hj => by have := (o1.blk j hj).2; omega)
  have HW : Hid (∀ j, (Value.slice a2 m c2).ownBlock = some j → j < T) := hid (fun j hj => by have := (o2.blk j hj).2; omega)
  rw [hL] at o1 o2 HGL
  have hng := HG.out
  have DD : Hid (DV w w g w.heap.size 301 1 [] (GX w.heap.size T L pc ht (.slice a1 4 c1) (.slice a2 m c2) m) 0 (w2.alloc (.cells #[.int .i64 pc, .slice a1 4 c1, .slice a2 m c2, .int .i64 ht] 25))) := hid ⟨(show DW w w g w.heap.size 301 1 [] 0 w2 from ⟨⟨q2, by omega, rd2⟩, gtrans D1.out.2.1 gr, D1.out.2.2.1, Nat.le_trans D1.out.2.2.2.1 gr.size, (fun x hx => by cases hx), Nat.le_refl _⟩).keep (below_alloc1 _ _), by simp; omega, ⟨_, _, _, _, _, _, _, _, (V2.out.grown gr (by simp; omega)).keep (below_alloc1 _ _)⟩, ⟨_, _, _, _, _, _, _, _, (V3.out.grown gr (by simp; omega)).keep (below_alloc1 _ _)⟩, by rw [← hT]; exact vb_new w2 [.int .i64 pc, .slice a1 4 c1, .slice a2 m c2, .int .i64 ht] 25, xs, ys, o1.keep (below_alloc1 _ _), o2.keep (below_alloc1 _ _)⟩
  have HX : Stands g (GX w.heap.size T L pc ht (.slice a1 4 c1) (.slice a2 m c2) m) := gx_stands HG.out HGL.out HLT.out
  have HE : EStands g (LE T) := le_stands (by have := HGL.out; have := HLT.out; omega)
  clear hng gr rd2 hq1 hq2 o1 o2 hL V2 V3 RD1 D1
  go_upto_region 3 with fail
  try rw [hT]
  obtain ⟨W3, hW3⟩ : ∃ W3, w2.alloc (.cells #[.int .i64 pc, .slice a1 4 c1, .slice a2 m c2, .int .i64 ht] 25) = W3 := ⟨_, rfl⟩
  rw [hW3] at DD ⊢
  clear hW3 hT
  refine region_facts (FE g w.heap.size [.is (.pointer (some ⟨g, 0, none⟩)), .rng 6, .is (.pointer (some ⟨g, 0, none⟩)), .rng 10, .row 6, .is (.pointer (some ⟨g, 0, none⟩)), .rng 6, .at, .int, .is (.pointer (some ⟨g, 0, none⟩)), .rng 4, .is (.pointer (some ⟨g, 0, none⟩)), .rng 4, .any, .any, .any] (LE T)) (DV w w g w.heap.size 301 1 [] (GX w.heap.size T L pc ht (.slice a1 4 c1) (.slice a2 m c2) m)) (by kernel_rfl) (by kernel_rfl) (DD.out.drew HX) ⟨?_, ?_, ?_, ?_, ?_, ?_, ?_, ?_, ?_, ?_, ?_, ?_, ?_, ?_, ?_, ?_, trivial⟩ ?_
  · exact ob_un (fe_lift HX HE (fun _ _ => trivial) fun _ HLO => rt_move (.pointer (some ⟨g, 0, none⟩)) rfl rfl rfl)
  · exact ob_un (fe_lift HX HE (fun _ _ => trivial) fun _ HLO => rt_pick (m := 6) 0 (by omega) (by simp <;> omega) (by omega) (by omega) rfl rfl rfl rfl)
  · exact ob_un (fe_lift HX HE (fun _ _ => trivial) fun _ HLO => rt_move (.pointer (some ⟨g, 0, none⟩)) rfl rfl rfl)
  · exact ob_un (fe_lift HX HE (fun _ _ => trivial) fun _ HLO => rt_pick (m := 10) 2 (by omega) (by simp <;> omega) (by omega) (by omega) rfl rfl rfl rfl)
  · exact ob_un (fe_lift HX HE (fun _ _ => trivial) fun _ HLO => rt_row (E := 3) (fun f w => by go_simp) rfl ⟨oi_const 0, oi_const 1, oi_const 4, oi_const 7, oi_const 8, oi_const 255, trivial⟩ rfl)
  · exact ob_un (fe_lift HX HE (fun _ _ => trivial) fun _ HLO => rt_move (.pointer (some ⟨g, 0, none⟩)) rfl rfl rfl)
  · exact ob_un (fe_lift HX HE (fun _ _ => trivial) fun _ HLO => rt_pick (m := 6) 5 (by omega) (by simp <;> omega) (by omega) (by omega) rfl rfl rfl rfl)
  · exact ob_un (fe_lift HX HE (fun _ _ => trivial) fun _ HLO => rt_idx 4 6 (by omega) (by omega) rfl rfl rfl rfl rfl rfl rfl)
  · exact ob_un (fe_lift HX HE (fun _ _ => trivial) fun _ HLO => rt_load 7 rfl rfl rfl rfl)
  · exact ob_un (fe_lift HX HE (fun _ _ => trivial) fun _ HLO => rt_move (.pointer (some ⟨g, 0, none⟩)) rfl rfl rfl)
  · exact ob_un (fe_lift HX HE (fun _ _ => trivial) fun _ HLO => rt_pick (m := 4) 9 (by omega) (by simp <;> omega) (by omega) (by omega) rfl rfl rfl rfl)
  · exact ob_un (fe_lift HX HE (fun _ _ => trivial) fun _ HLO => rt_move (.pointer (some ⟨g, 0, none⟩)) rfl rfl rfl)
  · exact ob_un (fe_lift HX HE (fun _ _ => trivial) fun _ HLO => rt_pick (m := 4) 11 (by omega) (by simp <;> omega) (by omega) (by omega) rfl rfl rfl rfl)
  · refine ob_un (ob_val fun n a w' hn hI hat => by
      obtain ⟨k, hk, _, _⟩ : ∃ x : Int, a.tmps[14]?.getD undef = .int .i64 x ∧ 0 ≤ x ∧ x < ((6 : Nat) : Int) := fs_in (s := 14) (j := 1) (fe_at hat) rfl rfl rfl
      obtain ⟨y, hy, _, _⟩ : ∃ x : Int, a.tmps[16]?.getD undef = .int .i64 x ∧ 0 ≤ x ∧ x < ((10 : Nat) : Int) := fs_in (s := 16) (j := 3) (fe_at hat) rfl rfl rfl
      obtain ⟨t, ht'⟩ : ∃ x : Int, a.tmps[21]?.getD undef = .int .i64 x := fs_in (s := 21) (j := 8) (fe_at hat) rfl rfl rfl
      obtain ⟨h, hh, _, _⟩ : ∃ x : Int, a.tmps[23]?.getD undef = .int .i64 x ∧ 0 ≤ x ∧ x < ((4 : Nat) : Int) := fs_in (s := 23) (j := 10) (fe_at hat) rfl rfl rfl
      obtain ⟨f, hf, _, _⟩ : ∃ x : Int, a.tmps[25]?.getD undef = .int .i64 x ∧ 0 ≤ x ∧ x < ((4 : Nat) : Int) := fs_in (s := 25) (j := 12) (fe_at hat) rfl rfl rfl
      refine ⟨.agg #[.int .i64 k, .int .i64 y, .slice none 0 0, .int .i64 t, .int .i64 h, .int .i64 f], w', ?_, ⟨trivial, k, y, t, h, f, rfl⟩, ⟨hI.1.same, hI.2⟩, fun _ _ _ h => h⟩
      clear hI hat
      simp only [execOp, eval_tmp, hk, hy, ht', hh, hf, List.map_toArray, List.map_cons, List.map_nil]
      go_simp)
  · refine ob_un (ob_val fun n a w' hn hI hat => by
      have hT := hI.2.1
      refine ⟨.pointer (some ⟨w'.heap.size, 0, none⟩), w'.alloc (.cells #[.int .i64 0, .int .i64 0, .slice none 0 0, .int .i64 0, .int .i64 0, .int .i64 0] 30), ?_, ⟨trivial, w'.heap.size, rfl, hT, 0, 0, 0, 0, 0, vb_new w' [.int .i64 0, .int .i64 0, .slice none 0 0, .int .i64 0, .int .i64 0, .int .i64 0] 30⟩, ⟨hI.1.alloc _, HX _ _ (galloc (grefl w' g) _) hI.2⟩, fun j u hj hu => ⟨fs_mono (ext_alloc _) j u hj hu.1, HE j u _ _ (galloc (grefl w' g) _) hu.2⟩⟩
      simp only [execOp]
      go_simp)
  · refine ob_un (ob_skip fun n a w' hn hI hat => by
      obtain ⟨b, hb, hTb, k', y', t', h', f', hvb⟩ := fe_in hat (s := 8) (j := 14) rfl rfl
      obtain ⟨k, y, t, h, f, hv⟩ := fe_in hat (s := 26) (j := 13) rfl rfl
      have q1 := HG.out
      have q2 := HGL.out
      have q3 := HLT.out
      have hst := st_ask hvb k y t h f none 0 0
      have hch : Chg (fun j => j = b) w' _ := vbchg6V (w := w') (b := b) (.int .i64 k) (.int .i64 y) (.slice none 0 0) (.int .i64 t) (.int .i64 h) (.int .i64 f) rfl
      have hvb' := vbset6V (.int .i64 k) (.int .i64 y) (.slice none 0 0) (.int .i64 t) (.int .i64 h) (.int .i64 f) hvb
      have hc2 := (vb6V hvb).2.2.1
      obtain ⟨d0, d1, _⟩ := vb6V hvb'
      have hex : Ext g w.heap.size w' _ := ext_of (ys := [k, y]) hch hc2 (fun n e => by cases e) ⟨fun i hi => by match i, hi with | 0, _ => exact d0 | 1, _ => exact d1, hvb'.2.1, hvb'.2.2⟩
      refine ⟨_, ?_, ⟨trivial, trivial⟩, ⟨((((((hI.1.setV _ (by omega) (by omega) (by omega)).setV _ (by omega) (by omega) (by omega)).setV _ (by omega) (by omega) (by omega)).setV _ (by omega) (by omega) (by omega)).setV _ (by omega) (by omega) (by omega)).setV _ (by omega) (by omega) (by omega)).same, gx_chg hI.2 hch hTb (by omega) HU.out HW.out⟩, fun j x hj hu => ⟨fs_mono hex j x hj hu.1, ?_⟩⟩
      · simp only [execOp, eval_tmp, hb, hv]
        simp only [Sem.run_bind, hst]
        rfl
      · have hu2 := hu.2
        unfold LE at hu2 ⊢
        split
        · exact hu2
        · obtain ⟨b2, z1, z2, k2, y2, t2, h2, f2, z3⟩ := hu2
          by_cases hbb : b2 = b
          · subst hbb
            exact ⟨b2, z1, z2, _, _, _, _, _, hvb'⟩
          · exact ⟨b2, z1, z2, _, _, _, _, _, z3.chg hch hbb⟩
        · trivial)
  intro u3 w3 hI hF
  obtain ⟨f0, f1, f2, f3, f4, f5, f6, f7, f8, f9, f10, f11, f12, f13, f14, f15, -⟩ := hF
  obtain ⟨B, hB, hTB, hak⟩ : ∃ b, u3 8 = .pointer (some ⟨b, 0, none⟩) ∧ T < b ∧ AskNil b w3 := f14.2
  have HTB := hid hTB
  have DD : Hid (DV w w g w.heap.size 317 1 [] (fun wx => GX w.heap.size T L pc ht (.slice a1 4 c1) (.slice a2 m c2) m wx ∧ AskNil B wx) 0 w3) := hid ⟨hI.1.re (by simp), hI.2, hak⟩
  have HXA : Stands g (fun wx => GX w.heap.size T L pc ht (.slice a1 4 c1) (.slice a2 m c2) m wx ∧ AskNil B wx) := fun w' w'' hb hh => ⟨HX _ _ hb hh.1, ak_stands (by have := HGL.out; have := HLT.out; omega) _ _ hb hh.2⟩
  clear f0 f1 f2 f3 f4 f5 f6 f7 f8 f9 f10 f11 f12 f13 f14 f15 hI hak HE hTB
  simp only [outTmps, List.setIfInBounds_toArray, List.set_cons_zero, List.set_cons_succ, hB]
  go_wp2_with fail
  refine (pick_dv 20 DD.out HXA (by omega) (by omega) (by omega)).mono ?_
  rintro e w4 ⟨x, rfl, lx, ux, DD⟩
  by_cases e0 : x = 0
  · subst e0
    go_upto_region 6 with fail
    refine region_plain (Fs g w.heap.size [.row 2, .is (.pointer (some ⟨g, 0, none⟩)), .rng 2, .at, .int, .is (.pointer (some ⟨B, 0, none⟩)), .any]) (DV w w g w.heap.size 318 1 [] (fun wx => GX w.heap.size T L pc ht (.slice a1 4 c1) (.slice a2 m c2) m wx ∧ AskNil B wx)) (by kernel_rfl) DD.out ⟨?_, ?_, ?_, ?_, ?_, ?_, ?_, trivial⟩ ?_
    · exact ob_un (dv_lift HXA fun _ HLO => rt_row (E := 3) (fun f w => by go_simp) rfl ⟨oi_const (-1), oi_const 6, trivial⟩ rfl)
    · exact ob_un (dv_lift HXA fun _ HLO => rt_move (.pointer (some ⟨g, 0, none⟩)) rfl rfl rfl)
    · exact ob_un (dv_lift HXA fun _ HLO => rt_pick (m := 2) 1 (by omega) (by simp <;> omega) (by omega) (by omega) rfl rfl rfl rfl)
    · exact ob_un (dv_lift HXA fun _ HLO => rt_idx 0 2 (by omega) (by omega) rfl rfl rfl rfl rfl rfl rfl)
    · exact ob_un (dv_lift HXA fun _ HLO => rt_load 3 rfl rfl rfl rfl)
    · exact ob_un (rx_field (fun w => by go_simp) rfl rfl rfl)
    · exact ob_un (rx_store 5 (by have := HGL.out; have := HLT.out; have := HTB.out; omega) (by have := HG.out; have := HGL.out; have := HLT.out; have := HTB.out; omega) (by have := HG.out; have := HGL.out; have := HLT.out; have := HTB.out; omega) (fun w' y h => by
      obtain ⟨r1, r2⟩ := ask_field0 w' y h.2
      exact ⟨r1, gx_chg h.1 ((Chg.refl (fun j => j = B) _).set (p := ⟨B, 0, none⟩) rfl _) HTB.out (by have := HG.out; have := HGL.out; have := HLT.out; omega) HU.out HW.out, r2⟩) rfl rfl rfl (oi_in 4 rfl rfl rfl) rfl)
    intro u6 w6 hI hF
    obtain ⟨f0, f1, f2, f3, f4, f5, f6, -⟩ := hF
    have DD := hid (hI.re (K' := 1) (p' := 330) (by simp))
    clear f0 f1 f2 f3 f4 f5 f6 hI
    simp only [outTmps, List.setIfInBounds_toArray, List.set_cons_zero, List.set_cons_succ]
    have DF : Hid (DV w w g w.heap.size 340 100 [] (fun wx => GX w.heap.size T L pc ht (.slice a1 4 c1) (.slice a2 m c2) m wx ∧ AskHas B T wx) 0 _) := hid ⟨DD.out.1.re (K' := 100) (by omega), DD.out.2.1, (show AskHas B T _ from by obtain ⟨k, y, t, h, f, hv⟩ := DD.out.2.2; exact ⟨k, y, t, h, f, none, 0, [], hv, own_nil _, by simp⟩)⟩
    have HXF : Stands g (fun wx => GX w.heap.size T L pc ht (.slice a1 4 c1) (.slice a2 m c2) m wx ∧ AskHas B T wx) := fun w' w'' hb hh => ⟨HX _ _ hb hh.1, ah_stands (by have := HGL.out; have := HLT.out; have := HTB.out; omega) (by have := HGL.out; have := HLT.out; omega) _ _ hb hh.2⟩
    have HE : EStands g (TE w.heap.size T pc ht (.slice a1 4 c1) (.slice a2 m c2)) := te_stands HG.out (by have := HGL.out; have := HLT.out; omega)
    clear DD
    go_upto_region 17 with fail
    refine region_facts (FE g w.heap.size [.is (.agg #[.int .i64 pc, .slice a1 4 c1, .slice a2 m c2, .int .i64 ht]), .any, .is (.pointer (some ⟨g, 0, none⟩)), .any, .is (.pointer (some ⟨g, 0, none⟩)), .rng 3, .bool, .any, .any, .any, .bool] (TE w.heap.size T pc ht (.slice a1 4 c1) (.slice a2 m c2))) (DV w w g w.heap.size 340 100 [] (fun wx => GX w.heap.size T L pc ht (.slice a1 4 c1) (.slice a2 m c2) m wx ∧ AskHas B T wx)) (by kernel_rfl) (by kernel_rfl) (DF.out.drew HXF) ⟨?_, ?_, ?_, ?_, ?_, ?_, ?_, ?_, ?_, ?_, ?_, trivial⟩ ?_
    · refine ob_un (ob_val fun n a w' hn hI hat => by
      have e : a.tmps[7]?.getD undef = .pointer (some ⟨T, 0, none⟩) := at_out hat rfl rfl
      have hld := ld_vm hI.2.1.2.2.2.1
      refine ⟨.agg #[.int .i64 pc, .slice a1 4 c1, .slice a2 m c2, .int .i64 ht], w', ?_, ⟨rfl, trivial⟩, ⟨hI.1.same, hI.2⟩, fun _ _ _ h => h⟩
      simp only [execOp, eval_tmp, e]
      simp only [Sem.run_bind, hld]
      rfl)
    · refine ob_un (ob_val fun n a w' hn hI hat => by
      have e : a.tmps[8]?.getD undef = .pointer (some ⟨B, 0, none⟩) := at_out hat rfl rfl
      obtain ⟨k, y, t, h, f, aa, c, bs, hvb, ho, hl⟩ := hI.2.2
      have hld := ld_ask hvb
      refine ⟨.agg #[.int .i64 k, .int .i64 y, .slice aa bs.length c, .int .i64 t, .int .i64 h, .int .i64 f], w', ?_, ⟨trivial, k, y, t, h, f, aa, c, bs, rfl, ho, hl⟩, ⟨hI.1.same, hI.2⟩, fun _ _ _ h => h⟩
      simp only [execOp, eval_tmp, e]
      simp only [Sem.run_bind, hld]
      rfl)
    · exact ob_un (fe_lift HXF HE (fun _ _ => trivial) fun _ HLO => rt_move (.pointer (some ⟨g, 0, none⟩)) rfl rfl rfl)
    · refine ob_un (ob_call (fun xs w => by go_simp) fun n a w' hn hI hat => by
      have h : _ = _ := is_in 2 (fe_at hat) rfl rfl rfl
      have e : (#[Operand.tmp 71].map a.eval) = #[.pointer (some ⟨g, 0, none⟩)] := by simp [eval_tmp, h]
      rw [e]
      obtain ⟨⟨q, h1, h2⟩, h3, h4, h5, h6, h7⟩ := hI.1
      have hn2 : n < 11 := hn
      have hb : (n + 1) * 100 ≤ 11 * 100 := Nat.mul_le_mul_right _ (by omega)
      rw [Nat.add_mul] at hb
      have hTw := hI.2.1.1
      refine (drawMessage_any w w' g q h2 (by omega)).mono ?_
      rintro e w3 ⟨uu, xs, rfl, hxs, ho, ⟨q', hq', rd⟩, gr⟩
      have hx := fun lo => ext_grown (lo := lo) gr
      exact ⟨_, rfl, ⟨trivial, xs, ho.low (by omega), hxs⟩, ⟨⟨⟨q', by rw [Nat.add_mul]; omega, rd⟩, gtrans h3 gr, h4, by have := gr.size; omega, (fun x hx' => by cases hx'), h7⟩, HXF _ _ gr hI.2⟩, fun j x hj hu => ⟨fs_mono (hx _) j x hj hu.1, HE j x _ _ gr hu.2⟩⟩)
    · exact ob_un (fe_lift HXF HE (fun _ _ => trivial) fun _ HLO => rt_move (.pointer (some ⟨g, 0, none⟩)) rfl rfl rfl)
    · exact ob_un (fe_lift HXF HE (fun _ _ => trivial) fun _ HLO => rt_pick (m := 3) 4 (by omega) (by simp <;> omega) (by omega) (by omega) rfl rfl rfl rfl)
    · refine ob_un (ob_val fun n a w' hn hI hat => by
      obtain ⟨k, hk, _, _⟩ : ∃ x : Int, a.tmps[74]?.getD undef = .int .i64 x ∧ 0 ≤ x ∧ x < ((3 : Nat) : Int) := fs_in (s := 74) (j := 5) (fe_at hat) rfl rfl rfl
      refine ⟨.bool (decide (0 < k)), w', ?_, ⟨⟨_, rfl⟩, trivial⟩, ⟨hI.1.same, hI.2⟩, fun _ _ _ h => h⟩
      clear hI hat
      simp only [execOp, eval_tmp, hk]
      go_simp)
    · refine ob_un (ob_skip fun n a w' hn hI hat => by
      have h0 : a.tmps[2]?.getD undef = .pointer (some ⟨w.heap.size, 0, none⟩) := at_out hat rfl rfl
      have h1 : a.tmps[69]?.getD undef = .agg #[.int .i64 pc, .slice a1 4 c1, .slice a2 m c2, .int .i64 ht] := fs_in (s := 69) (j := 0) (fe_at hat) rfl rfl rfl
      have q1 := HG.out
      have q2 := HGL.out
      have q3 := HLT.out
      have q4 := HTB.out
      obtain ⟨hx, ⟨k0, ks, ka, kt, xs, ys, ko, kp⟩, kh⟩ := hI
      have hst := st_vm ks pc ht a1 a2 4 c1 m c2
      obtain ⟨_, _, _, _, _, _, _, _, kv⟩ := ks
      have hch : Chg (fun j => j = w.heap.size) w' (vm4 w' w.heap.size (.int .i64 pc) (.slice a1 4 c1) (.slice a2 m c2) (.int .i64 ht)) := vbchg4 (.int .i64 pc) (.slice a1 4 c1) (.slice a2 m c2) (.int .i64 ht) rfl
      have hvb' : VB (vm4 w' w.heap.size (.int .i64 pc) (.slice a1 4 c1) (.slice a2 m c2) (.int .i64 ht)) _ _ := vbset4 (.int .i64 pc) (.slice a1 4 c1) (.slice a2 m c2) (.int .i64 ht) kv
      have hc1 := (vb4 kv).2.1
      have d0 := (vb4 hvb').1
      have hex : Ext g w.heap.size w' _ := ext_of (ys := [pc]) hch hc1 (fun n e => by cases e) ⟨fun i hi => by match i, hi with | 0, _ => exact d0, hvb'.2.1, hvb'.2.2⟩
      obtain ⟨_, _, _, _, _, _, _, _, ka⟩ := ka
      refine ⟨_, ?_, ⟨trivial, hvb'⟩, ⟨((((hx.setV _ (by omega) (by omega) (by omega)).setV _ (by omega) (by omega) (by omega)).setV _ (by omega) (by omega) (by omega)).setV _ (by omega) (by omega) (by omega)).same, ⟨Nat.lt_of_lt_of_le k0 hch.size, ⟨_, _, _, _, _, _, _, _, hvb'⟩, ⟨_, _, _, _, _, _, _, _, ka.chg hch (by first | omega | (dsimp only; omega))⟩, kt.chg hch (by first | omega | (dsimp only; omega)), xs, ys, ko.chg hch (fun j hj => by have := (ko.blk j hj).1; first | omega | (dsimp only; omega)), kp.chg hch (fun j hj => by have := (kp.blk j hj).1; first | omega | (dsimp only; omega))⟩, ah_chg kh hch (by first | omega | (dsimp only; omega)) (fun j hj => by first | omega | (dsimp only; omega))⟩, fun j x hj hu => ⟨fs_mono hex j x hj hu.1, te_chg hu.2 hch (by omega) (fun e => absurd e hj) (fun e => by omega)⟩⟩
      simp only [execOp, eval_tmp, h0, h1]
      simp only [Sem.run_bind, hst]
      rfl)
    · refine ob_un (ob_skip fun n a w' hn hI hat => by
      have h0 : a.tmps[3]?.getD undef = .pointer (some ⟨w.heap.size + 1, 0, none⟩) := at_out hat rfl rfl
      obtain ⟨k, y, t, h, f, aa, c, bs, h1, h2, h3⟩ := fe_in hat (s := 70) (j := 1) rfl rfl
      have q1 := HG.out
      have q2 := HGL.out
      have q3 := HLT.out
      have q4 := HTB.out
      obtain ⟨hx, ⟨k0, ks, ka, kt, xs, ys, ko, kp⟩, kh⟩ := hI
      obtain ⟨_, _, _, _, _, _, _, _, kv⟩ := ka
      have hst := st_ask kv k y t h f aa bs.length c
      have hch : Chg (fun j => j = w.heap.size + 1) w' _ := vbchg6V (w := w') (b := w.heap.size + 1) (.int .i64 k) (.int .i64 y) (.slice aa bs.length c) (.int .i64 t) (.int .i64 h) (.int .i64 f) rfl
      have hvb' := vbset6V (.int .i64 k) (.int .i64 y) (.slice aa bs.length c) (.int .i64 t) (.int .i64 h) (.int .i64 f) kv
      have hc2 := (vb6V kv).2.2.1
      obtain ⟨d0, d1, _⟩ := vb6V hvb'
      have hex : Ext g w.heap.size w' _ := ext_of (ys := [k, y]) hch hc2 (fun n e => by cases e) ⟨fun i hi => by match i, hi with | 0, _ => exact d0 | 1, _ => exact d1, hvb'.2.1, hvb'.2.2⟩
      obtain ⟨_, _, _, _, _, _, _, _, ks⟩ := ks
      refine ⟨_, ?_, ⟨trivial, k, y, t, h, f, aa, c, bs, hvb', own_chgV h2 hch (fun j hj => by first | omega | (dsimp only; omega)), h3⟩, ⟨((((((hx.setV _ (by omega) (by omega) (by omega)).setV _ (by omega) (by omega) (by omega)).setV _ (by omega) (by omega) (by omega)).setV _ (by omega) (by omega) (by omega)).setV _ (by omega) (by omega) (by omega)).setV _ (by omega) (by omega) (by omega)).same, ⟨Nat.lt_of_lt_of_le k0 hch.size, ⟨_, _, _, _, _, _, _, _, ks.chg hch (by first | omega | (dsimp only; omega))⟩, ⟨_, _, _, _, _, _, _, _, hvb'⟩, kt.chg hch (by first | omega | (dsimp only; omega)), xs, ys, ko.chg hch (fun j hj => by have := (ko.blk j hj).1; first | omega | (dsimp only; omega)), kp.chg hch (fun j hj => by have := (kp.blk j hj).1; first | omega | (dsimp only; omega))⟩, ah_chg kh hch (by first | omega | (dsimp only; omega)) (fun j hj => by first | omega | (dsimp only; omega))⟩, fun j x hj hu => ⟨fs_mono hex j x hj hu.1, te_chg hu.2 hch (by omega) (fun e => by omega) (fun e => absurd e hj)⟩⟩
      simp only [execOp, eval_tmp, h0, h1]
      simp only [Sem.run_bind, hst]
      rfl)
    · refine ob_un (ob_val fun n a w' hn hI hat => by
      have hf := fe_in hat (s := 72) (j := 3) rfl rfl
      exact ⟨a.tmps[72]?.getD undef, w', by simp only [execOp, eval_tmp]; rfl, ⟨trivial, hf⟩, ⟨hI.1.same, hI.2⟩, fun _ _ _ h => h⟩)
    · refine ob_un (ob_val fun n a w' hn hI hat => by
      have hf := fs_in (t := .bool) (s := 75) (j := 6) (fe_at hat) rfl rfl rfl
      exact ⟨a.tmps[75]?.getD undef, w', by simp only [execOp, eval_tmp]; rfl, ⟨hf, trivial⟩, ⟨hI.1.same, hI.2⟩, fun _ _ _ h => h⟩)
    intro u17 w17 hI hF
    obtain ⟨f0, f1, f2, f3, f4, f5, f6, f7, f8, f9, f10, -⟩ := hF
    obtain ⟨yes, hyes⟩ : ∃ b, u17 5 = .bool b := f10.1
    obtain ⟨got, og, hgl⟩ := f9.2
    obtain ⟨k, y, t, h, f, aa, c, bs, hvb, ho, hbl⟩ := f8.2
    have hvm := f7.2
    obtain ⟨xs', ys', k4, k5⟩ := hI.2.1.2.2.2.2
    have BW := hid (hI.1.below (by have := HG.out; omega))
    have HM := hid hvm
    have HA := hid hvb
    have P1 := hid (k4.rd (by omega))
    have P2 := hid (k5.rd (by omega))
    have P3 := hid (ho.rd (by omega))
    have P4 := hid (og.rd (by omega))
    clear f0 f1 f2 f3 f4 f5 f6 f7 f8 f9 f10 hI hvm hvb ho og k4 k5
    simp only [outTmps, List.setIfInBounds_toArray, List.set_cons_zero, List.set_cons_succ, hyes]
    go_wp2_with fail
    refine bodyPost_ret (res_drawVm _ rfl rfl HM.out HA.out rfl rfl) rfl ?_
    exact ⟨pc, ht, _, _, k, y, t, h, f, aa, c, _, yes, m, xs', ys', bs, got, rfl, P1.out, P2.out, hm9, P3.out, hbl, P4.out, hgl, BW.out⟩
  have d0 : (x == 0) = false := by simpa using e0
  by_cases e1 : x = 1
  · subst e1
    go_upto_region 8 with fail
    refine region_plain (Fs g w.heap.size [.row 2, .is (.pointer (some ⟨g, 0, none⟩)), .rng 2, .at, .int, .is (.pointer (some ⟨B, 4, none⟩)), .any]) (DV w w g w.heap.size 318 1 [] (fun wx => GX w.heap.size T L pc ht (.slice a1 4 c1) (.slice a2 m c2) m wx ∧ AskNil B wx)) (by kernel_rfl) DD.out ⟨?_, ?_, ?_, ?_, ?_, ?_, ?_, trivial⟩ ?_
    · exact ob_un (dv_lift HXA fun _ HLO => rt_row (E := 3) (fun f w => by go_simp) rfl ⟨oi_const (-1), oi_const 4, trivial⟩ rfl)
    · exact ob_un (dv_lift HXA fun _ HLO => rt_move (.pointer (some ⟨g, 0, none⟩)) rfl rfl rfl)
    · exact ob_un (dv_lift HXA fun _ HLO => rt_pick (m := 2) 1 (by omega) (by simp <;> omega) (by omega) (by omega) rfl rfl rfl rfl)
    · exact ob_un (dv_lift HXA fun _ HLO => rt_idx 0 2 (by omega) (by omega) rfl rfl rfl rfl rfl rfl rfl)
    · exact ob_un (dv_lift HXA fun _ HLO => rt_load 3 rfl rfl rfl rfl)
    · exact ob_un (rx_field (fun w => by go_simp) rfl rfl rfl)
    · exact ob_un (rx_store 5 (by have := HGL.out; have := HLT.out; have := HTB.out; omega) (by have := HG.out; have := HGL.out; have := HLT.out; have := HTB.out; omega) (by have := HG.out; have := HGL.out; have := HLT.out; have := HTB.out; omega) (fun w' y h => by
      obtain ⟨r1, r2⟩ := ask_field4 w' y h.2
      exact ⟨r1, gx_chg h.1 ((Chg.refl (fun j => j = B) _).set (p := ⟨B, 4, none⟩) rfl _) HTB.out (by have := HG.out; have := HGL.out; have := HLT.out; omega) HU.out HW.out, r2⟩) rfl rfl rfl (oi_in 4 rfl rfl rfl) rfl)
    intro u8 w8 hI hF
    obtain ⟨f0, f1, f2, f3, f4, f5, f6, -⟩ := hF
    have DD := hid (hI.re (K' := 1) (p' := 330) (by simp))
    clear f0 f1 f2 f3 f4 f5 f6 hI
    simp only [outTmps, List.setIfInBounds_toArray, List.set_cons_zero, List.set_cons_succ]
    have DF : Hid (DV w w g w.heap.size 340 100 [] (fun wx => GX w.heap.size T L pc ht (.slice a1 4 c1) (.slice a2 m c2) m wx ∧ AskHas B T wx) 0 _) := hid ⟨DD.out.1.re (K' := 100) (by omega), DD.out.2.1, (show AskHas B T _ from by obtain ⟨k, y, t, h, f, hv⟩ := DD.out.2.2; exact ⟨k, y, t, h, f, none, 0, [], hv, own_nil _, by simp⟩)⟩
    have HXF : Stands g (fun wx => GX w.heap.size T L pc ht (.slice a1 4 c1) (.slice a2 m c2) m wx ∧ AskHas B T wx) := fun w' w'' hb hh => ⟨HX _ _ hb hh.1, ah_stands (by have := HGL.out; have := HLT.out; have := HTB.out; omega) (by have := HGL.out; have := HLT.out; omega) _ _ hb hh.2⟩
    have HE : EStands g (TE w.heap.size T pc ht (.slice a1 4 c1) (.slice a2 m c2)) := te_stands HG.out (by have := HGL.out; have := HLT.out; omega)
    clear DD
    go_upto_region 17 with fail
    refine region_facts (FE g w.heap.size [.is (.agg #[.int .i64 pc, .slice a1 4 c1, .slice a2 m c2, .int .i64 ht]), .any, .is (.pointer (some ⟨g, 0, none⟩)), .any, .is (.pointer (some ⟨g, 0, none⟩)), .rng 3, .bool, .any, .any, .any, .bool] (TE w.heap.size T pc ht (.slice a1 4 c1) (.slice a2 m c2))) (DV w w g w.heap.size 340 100 [] (fun wx => GX w.heap.size T L pc ht (.slice a1 4 c1) (.slice a2 m c2) m wx ∧ AskHas B T wx)) (by kernel_rfl) (by kernel_rfl) (DF.out.drew HXF) ⟨?_, ?_, ?_, ?_, ?_, ?_, ?_, ?_, ?_, ?_, ?_, trivial⟩ ?_
    · refine ob_un (ob_val fun n a w' hn hI hat => by
      have e : a.tmps[7]?.getD undef = .pointer (some ⟨T, 0, none⟩) := at_out hat rfl rfl
      have hld := ld_vm hI.2.1.2.2.2.1
      refine ⟨.agg #[.int .i64 pc, .slice a1 4 c1, .slice a2 m c2, .int .i64 ht], w', ?_, ⟨rfl, trivial⟩, ⟨hI.1.same, hI.2⟩, fun _ _ _ h => h⟩
      simp only [execOp, eval_tmp, e]
      simp only [Sem.run_bind, hld]
      rfl)
    · refine ob_un (ob_val fun n a w' hn hI hat => by
      have e : a.tmps[8]?.getD undef = .pointer (some ⟨B, 0, none⟩) := at_out hat rfl rfl
      obtain ⟨k, y, t, h, f, aa, c, bs, hvb, ho, hl⟩ := hI.2.2
      have hld := ld_ask hvb
      refine ⟨.agg #[.int .i64 k, .int .i64 y, .slice aa bs.length c, .int .i64 t, .int .i64 h, .int .i64 f], w', ?_, ⟨trivial, k, y, t, h, f, aa, c, bs, rfl, ho, hl⟩, ⟨hI.1.same, hI.2⟩, fun _ _ _ h => h⟩
      simp only [execOp, eval_tmp, e]
      simp only [Sem.run_bind, hld]
      rfl)
    · exact ob_un (fe_lift HXF HE (fun _ _ => trivial) fun _ HLO => rt_move (.pointer (some ⟨g, 0, none⟩)) rfl rfl rfl)
    · refine ob_un (ob_call (fun xs w => by go_simp) fun n a w' hn hI hat => by
      have h : _ = _ := is_in 2 (fe_at hat) rfl rfl rfl
      have e : (#[Operand.tmp 71].map a.eval) = #[.pointer (some ⟨g, 0, none⟩)] := by simp [eval_tmp, h]
      rw [e]
      obtain ⟨⟨q, h1, h2⟩, h3, h4, h5, h6, h7⟩ := hI.1
      have hn2 : n < 11 := hn
      have hb : (n + 1) * 100 ≤ 11 * 100 := Nat.mul_le_mul_right _ (by omega)
      rw [Nat.add_mul] at hb
      have hTw := hI.2.1.1
      refine (drawMessage_any w w' g q h2 (by omega)).mono ?_
      rintro e w3 ⟨uu, xs, rfl, hxs, ho, ⟨q', hq', rd⟩, gr⟩
      have hx := fun lo => ext_grown (lo := lo) gr
      exact ⟨_, rfl, ⟨trivial, xs, ho.low (by omega), hxs⟩, ⟨⟨⟨q', by rw [Nat.add_mul]; omega, rd⟩, gtrans h3 gr, h4, by have := gr.size; omega, (fun x hx' => by cases hx'), h7⟩, HXF _ _ gr hI.2⟩, fun j x hj hu => ⟨fs_mono (hx _) j x hj hu.1, HE j x _ _ gr hu.2⟩⟩)
    · exact ob_un (fe_lift HXF HE (fun _ _ => trivial) fun _ HLO => rt_move (.pointer (some ⟨g, 0, none⟩)) rfl rfl rfl)
    · exact ob_un (fe_lift HXF HE (fun _ _ => trivial) fun _ HLO => rt_pick (m := 3) 4 (by omega) (by simp <;> omega) (by omega) (by omega) rfl rfl rfl rfl)
    · refine ob_un (ob_val fun n a w' hn hI hat => by
      obtain ⟨k, hk, _, _⟩ : ∃ x : Int, a.tmps[74]?.getD undef = .int .i64 x ∧ 0 ≤ x ∧ x < ((3 : Nat) : Int) := fs_in (s := 74) (j := 5) (fe_at hat) rfl rfl rfl
      refine ⟨.bool (decide (0 < k)), w', ?_, ⟨⟨_, rfl⟩, trivial⟩, ⟨hI.1.same, hI.2⟩, fun _ _ _ h => h⟩
      clear hI hat
      simp only [execOp, eval_tmp, hk]
      go_simp)
    · refine ob_un (ob_skip fun n a w' hn hI hat => by
      have h0 : a.tmps[2]?.getD undef = .pointer (some ⟨w.heap.size, 0, none⟩) := at_out hat rfl rfl
      have h1 : a.tmps[69]?.getD undef = .agg #[.int .i64 pc, .slice a1 4 c1, .slice a2 m c2, .int .i64 ht] := fs_in (s := 69) (j := 0) (fe_at hat) rfl rfl rfl
      have q1 := HG.out
      have q2 := HGL.out
      have q3 := HLT.out
      have q4 := HTB.out
      obtain ⟨hx, ⟨k0, ks, ka, kt, xs, ys, ko, kp⟩, kh⟩ := hI
      have hst := st_vm ks pc ht a1 a2 4 c1 m c2
      obtain ⟨_, _, _, _, _, _, _, _, kv⟩ := ks
      have hch : Chg (fun j => j = w.heap.size) w' (vm4 w' w.heap.size (.int .i64 pc) (.slice a1 4 c1) (.slice a2 m c2) (.int .i64 ht)) := vbchg4 (.int .i64 pc) (.slice a1 4 c1) (.slice a2 m c2) (.int .i64 ht) rfl
      have hvb' : VB (vm4 w' w.heap.size (.int .i64 pc) (.slice a1 4 c1) (.slice a2 m c2) (.int .i64 ht)) _ _ := vbset4 (.int .i64 pc) (.slice a1 4 c1) (.slice a2 m c2) (.int .i64 ht) kv
      have hc1 := (vb4 kv).2.1
      have d0 := (vb4 hvb').1
      have hex : Ext g w.heap.size w' _ := ext_of (ys := [pc]) hch hc1 (fun n e => by cases e) ⟨fun i hi => by match i, hi with | 0, _ => exact d0, hvb'.2.1, hvb'.2.2⟩
      obtain ⟨_, _, _, _, _, _, _, _, ka⟩ := ka
      refine ⟨_, ?_, ⟨trivial, hvb'⟩, ⟨((((hx.setV _ (by omega) (by omega) (by omega)).setV _ (by omega) (by omega) (by omega)).setV _ (by omega) (by omega) (by omega)).setV _ (by omega) (by omega) (by omega)).same, ⟨Nat.lt_of_lt_of_le k0 hch.size, ⟨_, _, _, _, _, _, _, _, hvb'⟩, ⟨_, _, _, _, _, _, _, _, ka.chg hch (by first | omega | (dsimp only; omega))⟩, kt.chg hch (by first | omega | (dsimp only; omega)), xs, ys, ko.chg hch (fun j hj => by have := (ko.blk j hj).1; first | omega | (dsimp only; omega)), kp.chg hch (fun j hj => by have := (kp.blk j hj).1; first | omega | (dsimp only; omega))⟩, ah_chg kh hch (by first | omega | (dsimp only; omega)) (fun j hj => by first | omega | (dsimp only; omega))⟩, fun j x hj hu => ⟨fs_mono hex j x hj hu.1, te_chg hu.2 hch (by omega) (fun e => absurd e hj) (fun e => by omega)⟩⟩
      simp only [execOp, eval_tmp, h0, h1]
      simp only [Sem.run_bind, hst]
      rfl)
    · refine ob_un (ob_skip fun n a w' hn hI hat => by
      have h0 : a.tmps[3]?.getD undef = .pointer (some ⟨w.heap.size + 1, 0, none⟩) := at_out hat rfl rfl
      obtain ⟨k, y, t, h, f, aa, c, bs, h1, h2, h3⟩ := fe_in hat (s := 70) (j := 1) rfl rfl
      have q1 := HG.out
      have q2 := HGL.out
      have q3 := HLT.out
      have q4 := HTB.out
      obtain ⟨hx, ⟨k0, ks, ka, kt, xs, ys, ko, kp⟩, kh⟩ := hI
      obtain ⟨_, _, _, _, _, _, _, _, kv⟩ := ka
      have hst := st_ask kv k y t h f aa bs.length c
      have hch : Chg (fun j => j = w.heap.size + 1) w' _ := vbchg6V (w := w') (b := w.heap.size + 1) (.int .i64 k) (.int .i64 y) (.slice aa bs.length c) (.int .i64 t) (.int .i64 h) (.int .i64 f) rfl
      have hvb' := vbset6V (.int .i64 k) (.int .i64 y) (.slice aa bs.length c) (.int .i64 t) (.int .i64 h) (.int .i64 f) kv
      have hc2 := (vb6V kv).2.2.1
      obtain ⟨d0, d1, _⟩ := vb6V hvb'
      have hex : Ext g w.heap.size w' _ := ext_of (ys := [k, y]) hch hc2 (fun n e => by cases e) ⟨fun i hi => by match i, hi with | 0, _ => exact d0 | 1, _ => exact d1, hvb'.2.1, hvb'.2.2⟩
      obtain ⟨_, _, _, _, _, _, _, _, ks⟩ := ks
      refine ⟨_, ?_, ⟨trivial, k, y, t, h, f, aa, c, bs, hvb', own_chgV h2 hch (fun j hj => by first | omega | (dsimp only; omega)), h3⟩, ⟨((((((hx.setV _ (by omega) (by omega) (by omega)).setV _ (by omega) (by omega) (by omega)).setV _ (by omega) (by omega) (by omega)).setV _ (by omega) (by omega) (by omega)).setV _ (by omega) (by omega) (by omega)).setV _ (by omega) (by omega) (by omega)).same, ⟨Nat.lt_of_lt_of_le k0 hch.size, ⟨_, _, _, _, _, _, _, _, ks.chg hch (by first | omega | (dsimp only; omega))⟩, ⟨_, _, _, _, _, _, _, _, hvb'⟩, kt.chg hch (by first | omega | (dsimp only; omega)), xs, ys, ko.chg hch (fun j hj => by have := (ko.blk j hj).1; first | omega | (dsimp only; omega)), kp.chg hch (fun j hj => by have := (kp.blk j hj).1; first | omega | (dsimp only; omega))⟩, ah_chg kh hch (by first | omega | (dsimp only; omega)) (fun j hj => by first | omega | (dsimp only; omega))⟩, fun j x hj hu => ⟨fs_mono hex j x hj hu.1, te_chg hu.2 hch (by omega) (fun e => by omega) (fun e => absurd e hj)⟩⟩
      simp only [execOp, eval_tmp, h0, h1]
      simp only [Sem.run_bind, hst]
      rfl)
    · refine ob_un (ob_val fun n a w' hn hI hat => by
      have hf := fe_in hat (s := 72) (j := 3) rfl rfl
      exact ⟨a.tmps[72]?.getD undef, w', by simp only [execOp, eval_tmp]; rfl, ⟨trivial, hf⟩, ⟨hI.1.same, hI.2⟩, fun _ _ _ h => h⟩)
    · refine ob_un (ob_val fun n a w' hn hI hat => by
      have hf := fs_in (t := .bool) (s := 75) (j := 6) (fe_at hat) rfl rfl rfl
      exact ⟨a.tmps[75]?.getD undef, w', by simp only [execOp, eval_tmp]; rfl, ⟨hf, trivial⟩, ⟨hI.1.same, hI.2⟩, fun _ _ _ h => h⟩)
    intro u17 w17 hI hF
    obtain ⟨f0, f1, f2, f3, f4, f5, f6, f7, f8, f9, f10, -⟩ := hF
    obtain ⟨yes, hyes⟩ : ∃ b, u17 5 = .bool b := f10.1
    obtain ⟨got, og, hgl⟩ := f9.2
    obtain ⟨k, y, t, h, f, aa, c, bs, hvb, ho, hbl⟩ := f8.2
    have hvm := f7.2
    obtain ⟨xs', ys', k4, k5⟩ := hI.2.1.2.2.2.2
    have BW := hid (hI.1.below (by have := HG.out; omega))
    have HM := hid hvm
    have HA := hid hvb
    have P1 := hid (k4.rd (by omega))
    have P2 := hid (k5.rd (by omega))
    have P3 := hid (ho.rd (by omega))
    have P4 := hid (og.rd (by omega))
    clear f0 f1 f2 f3 f4 f5 f6 f7 f8 f9 f10 hI hvm hvb ho og k4 k5
    simp only [outTmps, List.setIfInBounds_toArray, List.set_cons_zero, List.set_cons_succ, hyes]
    go_wp2_with fail
    refine bodyPost_ret (res_drawVm _ rfl rfl HM.out HA.out rfl rfl) rfl ?_
    exact ⟨pc, ht, _, _, k, y, t, h, f, aa, c, _, yes, m, xs', ys', bs, got, rfl, P1.out, P2.out, hm9, P3.out, hbl, P4.out, hgl, BW.out⟩
  have d1 : (x == 1) = false := by simpa using e1
  by_cases e2 : x = 2
  · subst e2
    go_upto_region 10 with fail
    refine region_plain (Fs g w.heap.size [.row 2, .is (.pointer (some ⟨g, 0, none⟩)), .rng 2, .at, .int, .is (.pointer (some ⟨B, 3, none⟩)), .any]) (DV w w g w.heap.size 318 1 [] (fun wx => GX w.heap.size T L pc ht (.slice a1 4 c1) (.slice a2 m c2) m wx ∧ AskNil B wx)) (by kernel_rfl) DD.out ⟨?_, ?_, ?_, ?_, ?_, ?_, ?_, trivial⟩ ?_
    · exact ob_un (dv_lift HXA fun _ HLO => rt_row (E := 3) (fun f w => by go_simp) rfl ⟨oi_const (-1), oi_const 256, trivial⟩ rfl)
    · exact ob_un (dv_lift HXA fun _ HLO => rt_move (.pointer (some ⟨g, 0, none⟩)) rfl rfl rfl)
    · exact ob_un (dv_lift HXA fun _ HLO => rt_pick (m := 2) 1 (by omega) (by simp <;> omega) (by omega) (by omega) rfl rfl rfl rfl)
    · exact ob_un (dv_lift HXA fun _ HLO => rt_idx 0 2 (by omega) (by omega) rfl rfl rfl rfl rfl rfl rfl)
    · exact ob_un (dv_lift HXA fun _ HLO => rt_load 3 rfl rfl rfl rfl)
    · exact ob_un (rx_field (fun w => by go_simp) rfl rfl rfl)
    · exact ob_un (rx_store 5 (by have := HGL.out; have := HLT.out; have := HTB.out; omega) (by have := HG.out; have := HGL.out; have := HLT.out; have := HTB.out; omega) (by have := HG.out; have := HGL.out; have := HLT.out; have := HTB.out; omega) (fun w' y h => by
      obtain ⟨r1, r2⟩ := ask_field3 w' y h.2
      exact ⟨r1, gx_chg h.1 ((Chg.refl (fun j => j = B) _).set (p := ⟨B, 3, none⟩) rfl _) HTB.out (by have := HG.out; have := HGL.out; have := HLT.out; omega) HU.out HW.out, r2⟩) rfl rfl rfl (oi_in 4 rfl rfl rfl) rfl)
    intro u10 w10 hI hF
    obtain ⟨f0, f1, f2, f3, f4, f5, f6, -⟩ := hF
    have DD := hid (hI.re (K' := 1) (p' := 330) (by simp))
    clear f0 f1 f2 f3 f4 f5 f6 hI
    simp only [outTmps, List.setIfInBounds_toArray, List.set_cons_zero, List.set_cons_succ]
    have DF : Hid (DV w w g w.heap.size 340 100 [] (fun wx => GX w.heap.size T L pc ht (.slice a1 4 c1) (.slice a2 m c2) m wx ∧ AskHas B T wx) 0 _) := hid ⟨DD.out.1.re (K' := 100) (by omega), DD.out.2.1, (show AskHas B T _ from by obtain ⟨k, y, t, h, f, hv⟩ := DD.out.2.2; exact ⟨k, y, t, h, f, none, 0, [], hv, own_nil _, by simp⟩)⟩
    have HXF : Stands g (fun wx => GX w.heap.size T L pc ht (.slice a1 4 c1) (.slice a2 m c2) m wx ∧ AskHas B T wx) := fun w' w'' hb hh => ⟨HX _ _ hb hh.1, ah_stands (by have := HGL.out; have := HLT.out; have := HTB.out; omega) (by have := HGL.out; have := HLT.out; omega) _ _ hb hh.2⟩
    have HE : EStands g (TE w.heap.size T pc ht (.slice a1 4 c1) (.slice a2 m c2)) := te_stands HG.out (by have := HGL.out; have := HLT.out; omega)
    clear DD
    go_upto_region 17 with fail
    refine region_facts (FE g w.heap.size [.is (.agg #[.int .i64 pc, .slice a1 4 c1, .slice a2 m c2, .int .i64 ht]), .any, .is (.pointer (some ⟨g, 0, none⟩)), .any, .is (.pointer (some ⟨g, 0, none⟩)), .rng 3, .bool, .any, .any, .any, .bool] (TE w.heap.size T pc ht (.slice a1 4 c1) (.slice a2 m c2))) (DV w w g w.heap.size 340 100 [] (fun wx => GX w.heap.size T L pc ht (.slice a1 4 c1) (.slice a2 m c2) m wx ∧ AskHas B T wx)) (by kernel_rfl) (by kernel_rfl) (DF.out.drew HXF) ⟨?_, ?_, ?_, ?_, ?_, ?_, ?_, ?_, ?_, ?_, ?_, trivial⟩ ?_
    · refine ob_un (ob_val fun n a w' hn hI hat => by
      have e : a.tmps[7]?.getD undef = .pointer (some ⟨T, 0, none⟩) := at_out hat rfl rfl
      have hld := ld_vm hI.2.1.2.2.2.1
      refine ⟨.agg #[.int .i64 pc, .slice a1 4 c1, .slice a2 m c2, .int .i64 ht], w', ?_, ⟨rfl, trivial⟩, ⟨hI.1.same, hI.2⟩, fun _ _ _ h => h⟩
      simp only [execOp, eval_tmp, e]
      simp only [Sem.run_bind, hld]
      rfl)
    · refine ob_un (ob_val fun n a w' hn hI hat => by
      have e : a.tmps[8]?.getD undef = .pointer (some ⟨B, 0, none⟩) := at_out hat rfl rfl
      obtain ⟨k, y, t, h, f, aa, c, bs, hvb, ho, hl⟩ := hI.2.2
      have hld := ld_ask hvb
      refine ⟨.agg #[.int .i64 k, .int .i64 y, .slice aa bs.length c, .int .i64 t, .int .i64 h, .int .i64 f], w', ?_, ⟨trivial, k, y, t, h, f, aa, c, bs, rfl, ho, hl⟩, ⟨hI.1.same, hI.2⟩, fun _ _ _ h => h⟩
      simp only [execOp, eval_tmp, e]
      simp only [Sem.run_bind, hld]
      rfl)
    · exact ob_un (fe_lift HXF HE (fun _ _ => trivial) fun _ HLO => rt_move (.pointer (some ⟨g, 0, none⟩)) rfl rfl rfl)
    · refine ob_un (ob_call (fun xs w => by go_simp) fun n a w' hn hI hat => by
      have h : _ = _ := is_in 2 (fe_at hat) rfl rfl rfl
      have e : (#[Operand.tmp 71].map a.eval) = #[.pointer (some ⟨g, 0, none⟩)] := by simp [eval_tmp, h]
      rw [e]
      obtain ⟨⟨q, h1, h2⟩, h3, h4, h5, h6, h7⟩ := hI.1
      have hn2 : n < 11 := hn
      have hb : (n + 1) * 100 ≤ 11 * 100 := Nat.mul_le_mul_right _ (by omega)
      rw [Nat.add_mul] at hb
      have hTw := hI.2.1.1
      refine (drawMessage_any w w' g q h2 (by omega)).mono ?_
      rintro e w3 ⟨uu, xs, rfl, hxs, ho, ⟨q', hq', rd⟩, gr⟩
      have hx := fun lo => ext_grown (lo := lo) gr
      exact ⟨_, rfl, ⟨trivial, xs, ho.low (by omega), hxs⟩, ⟨⟨⟨q', by rw [Nat.add_mul]; omega, rd⟩, gtrans h3 gr, h4, by have := gr.size; omega, (fun x hx' => by cases hx'), h7⟩, HXF _ _ gr hI.2⟩, fun j x hj hu => ⟨fs_mono (hx _) j x hj hu.1, HE j x _ _ gr hu.2⟩⟩)
    · exact ob_un (fe_lift HXF HE (fun _ _ => trivial) fun _ HLO => rt_move (.pointer (some ⟨g, 0, none⟩)) rfl rfl rfl)
    · exact ob_un (fe_lift HXF HE (fun _ _ => trivial) fun _ HLO => rt_pick (m := 3) 4 (by omega) (by simp <;> omega) (by omega) (by omega) rfl rfl rfl rfl)
    · refine ob_un (ob_val fun n a w' hn hI hat => by
      obtain ⟨k, hk, _, _⟩ : ∃ x : Int, a.tmps[74]?.getD undef = .int .i64 x ∧ 0 ≤ x ∧ x < ((3 : Nat) : Int) := fs_in (s := 74) (j := 5) (fe_at hat) rfl rfl rfl
      refine ⟨.bool (decide (0 < k)), w', ?_, ⟨⟨_, rfl⟩, trivial⟩, ⟨hI.1.same, hI.2⟩, fun _ _ _ h => h⟩
      clear hI hat
      simp only [execOp, eval_tmp, hk]
      go_simp)
    · refine ob_un (ob_skip fun n a w' hn hI hat => by
      have h0 : a.tmps[2]?.getD undef = .pointer (some ⟨w.heap.size, 0, none⟩) := at_out hat rfl rfl
      have h1 : a.tmps[69]?.getD undef = .agg #[.int .i64 pc, .slice a1 4 c1, .slice a2 m c2, .int .i64 ht] := fs_in (s := 69) (j := 0) (fe_at hat) rfl rfl rfl
      have q1 := HG.out
      have q2 := HGL.out
      have q3 := HLT.out
      have q4 := HTB.out
      obtain ⟨hx, ⟨k0, ks, ka, kt, xs, ys, ko, kp⟩, kh⟩ := hI
      have hst := st_vm ks pc ht a1 a2 4 c1 m c2
      obtain ⟨_, _, _, _, _, _, _, _, kv⟩ := ks
      have hch : Chg (fun j => j = w.heap.size) w' (vm4 w' w.heap.size (.int .i64 pc) (.slice a1 4 c1) (.slice a2 m c2) (.int .i64 ht)) := vbchg4 (.int .i64 pc) (.slice a1 4 c1) (.slice a2 m c2) (.int .i64 ht) rfl
      have hvb' : VB (vm4 w' w.heap.size (.int .i64 pc) (.slice a1 4 c1) (.slice a2 m c2) (.int .i64 ht)) _ _ := vbset4 (.int .i64 pc) (.slice a1 4 c1) (.slice a2 m c2) (.int .i64 ht) kv
      have hc1 := (vb4 kv).2.1
      have d0 := (vb4 hvb').1
      have hex : Ext g w.heap.size w' _ := ext_of (ys := [pc]) hch hc1 (fun n e => by cases e) ⟨fun i hi => by match i, hi with | 0, _ => exact d0, hvb'.2.1, hvb'.2.2⟩
      obtain ⟨_, _, _, _, _, _, _, _, ka⟩ := ka
      refine ⟨_, ?_, ⟨trivial, hvb'⟩, ⟨((((hx.setV _ (by omega) (by omega) (by omega)).setV _ (by omega) (by omega) (by omega)).setV _ (by omega) (by omega) (by omega)).setV _ (by omega) (by omega) (by omega)).same, ⟨Nat.lt_of_lt_of_le k0 hch.size, ⟨_, _, _, _, _, _, _, _, hvb'⟩, ⟨_, _, _, _, _, _, _, _, ka.chg hch (by first | omega | (dsimp only; omega))⟩, kt.chg hch (by first | omega | (dsimp only; omega)), xs, ys, ko.chg hch (fun j hj => by have := (ko.blk j hj).1; first | omega | (dsimp only; omega)), kp.chg hch (fun j hj => by have := (kp.blk j hj).1; first | omega | (dsimp only; omega))⟩, ah_chg kh hch (by first | omega | (dsimp only; omega)) (fun j hj => by first | omega | (dsimp only; omega))⟩, fun j x hj hu => ⟨fs_mono hex j x hj hu.1, te_chg hu.2 hch (by omega) (fun e => absurd e hj) (fun e => by omega)⟩⟩
      simp only [execOp, eval_tmp, h0, h1]
      simp only [Sem.run_bind, hst]
      rfl)
    · refine ob_un (ob_skip fun n a w' hn hI hat => by
      have h0 : a.tmps[3]?.getD undef = .pointer (some ⟨w.heap.size + 1, 0, none⟩) := at_out hat rfl rfl
      obtain ⟨k, y, t, h, f, aa, c, bs, h1, h2, h3⟩ := fe_in hat (s := 70) (j := 1) rfl rfl
      have q1 := HG.out
      have q2 := HGL.out
      have q3 := HLT.out
      have q4 := HTB.out
      obtain ⟨hx, ⟨k0, ks, ka, kt, xs, ys, ko, kp⟩, kh⟩ := hI
      obtain ⟨_, _, _, _, _, _, _, _, kv⟩ := ka
      have hst := st_ask kv k y t h f aa bs.length c
      have hch : Chg (fun j => j = w.heap.size + 1) w' _ := vbchg6V (w := w') (b := w.heap.size + 1) (.int .i64 k) (.int .i64 y) (.slice aa bs.length c) (.int .i64 t) (.int .i64 h) (.int .i64 f) rfl
      have hvb' := vbset6V (.int .i64 k) (.int .i64 y) (.slice aa bs.length c) (.int .i64 t) (.int .i64 h) (.int .i64 f) kv
      have hc2 := (vb6V kv).2.2.1
      obtain ⟨d0, d1, _⟩ := vb6V hvb'
      have hex : Ext g w.heap.size w' _ := ext_of (ys := [k, y]) hch hc2 (fun n e => by cases e) ⟨fun i hi => by match i, hi with | 0, _ => exact d0 | 1, _ => exact d1, hvb'.2.1, hvb'.2.2⟩
      obtain ⟨_, _, _, _, _, _, _, _, ks⟩ := ks
      refine ⟨_, ?_, ⟨trivial, k, y, t, h, f, aa, c, bs, hvb', own_chgV h2 hch (fun j hj => by first | omega | (dsimp only; omega)), h3⟩, ⟨((((((hx.setV _ (by omega) (by omega) (by omega)).setV _ (by omega) (by omega) (by omega)).setV _ (by omega) (by omega) (by omega)).setV _ (by omega) (by omega) (by omega)).setV _ (by omega) (by omega) (by omega)).setV _ (by omega) (by omega) (by omega)).same, ⟨Nat.lt_of_lt_of_le k0 hch.size, ⟨_, _, _, _, _, _, _, _, ks.chg hch (by first | omega | (dsimp only; omega))⟩, ⟨_, _, _, _, _, _, _, _, hvb'⟩, kt.chg hch (by first | omega | (dsimp only; omega)), xs, ys, ko.chg hch (fun j hj => by have := (ko.blk j hj).1; first | omega | (dsimp only; omega)), kp.chg hch (fun j hj => by have := (kp.blk j hj).1; first | omega | (dsimp only; omega))⟩, ah_chg kh hch (by first | omega | (dsimp only; omega)) (fun j hj => by first | omega | (dsimp only; omega))⟩, fun j x hj hu => ⟨fs_mono hex j x hj hu.1, te_chg hu.2 hch (by omega) (fun e => by omega) (fun e => absurd e hj)⟩⟩
      simp only [execOp, eval_tmp, h0, h1]
      simp only [Sem.run_bind, hst]
      rfl)
    · refine ob_un (ob_val fun n a w' hn hI hat => by
      have hf := fe_in hat (s := 72) (j := 3) rfl rfl
      exact ⟨a.tmps[72]?.getD undef, w', by simp only [execOp, eval_tmp]; rfl, ⟨trivial, hf⟩, ⟨hI.1.same, hI.2⟩, fun _ _ _ h => h⟩)
    · refine ob_un (ob_val fun n a w' hn hI hat => by
      have hf := fs_in (t := .bool) (s := 75) (j := 6) (fe_at hat) rfl rfl rfl
      exact ⟨a.tmps[75]?.getD undef, w', by simp only [execOp, eval_tmp]; rfl, ⟨hf, trivial⟩, ⟨hI.1.same, hI.2⟩, fun _ _ _ h => h⟩)
    intro u17 w17 hI hF
    obtain ⟨f0, f1, f2, f3, f4, f5, f6, f7, f8, f9, f10, -⟩ := hF
    obtain ⟨yes, hyes⟩ : ∃ b, u17 5 = .bool b := f10.1
    obtain ⟨got, og, hgl⟩ := f9.2
    obtain ⟨k, y, t, h, f, aa, c, bs, hvb, ho, hbl⟩ := f8.2
    have hvm := f7.2
    obtain ⟨xs', ys', k4, k5⟩ := hI.2.1.2.2.2.2
    have BW := hid (hI.1.below (by have := HG.out; omega))
    have HM := hid hvm
    have HA := hid hvb
    have P1 := hid (k4.rd (by omega))
    have P2 := hid (k5.rd (by omega))
    have P3 := hid (ho.rd (by omega))
    have P4 := hid (og.rd (by omega))
    clear f0 f1 f2 f3 f4 f5 f6 f7 f8 f9 f10 hI hvm hvb ho og k4 k5
    simp only [outTmps, List.setIfInBounds_toArray, List.set_cons_zero, List.set_cons_succ, hyes]
    go_wp2_with fail
    refine bodyPost_ret (res_drawVm _ rfl rfl HM.out HA.out rfl rfl) rfl ?_
    exact ⟨pc, ht, _, _, k, y, t, h, f, aa, c, _, yes, m, xs', ys', bs, got, rfl, P1.out, P2.out, hm9, P3.out, hbl, P4.out, hgl, BW.out⟩
  have d2 : (x == 2) = false := by simpa using e2
  by_cases e3 : x = 3
  · subst e3
    go_upto_region 12 with fail
    refine region_plain (Fs g w.heap.size [.row 2, .is (.pointer (some ⟨g, 0, none⟩)), .rng 2, .at, .int, .is (.pointer (some ⟨B, 1, none⟩)), .any]) (DV w w g w.heap.size 318 1 [] (fun wx => GX w.heap.size T L pc ht (.slice a1 4 c1) (.slice a2 m c2) m wx ∧ AskNil B wx)) (by kernel_rfl) DD.out ⟨?_, ?_, ?_, ?_, ?_, ?_, ?_, trivial⟩ ?_
    · exact ob_un (dv_lift HXA fun _ HLO => rt_row (E := 3) (fun f w => by go_simp) rfl ⟨oi_const (-1), oi_const 10, trivial⟩ rfl)
    · exact ob_un (dv_lift HXA fun _ HLO => rt_move (.pointer (some ⟨g, 0, none⟩)) rfl rfl rfl)
    · exact ob_un (dv_lift HXA fun _ HLO => rt_pick (m := 2) 1 (by omega) (by simp <;> omega) (by omega) (by omega) rfl rfl rfl rfl)
    · exact ob_un (dv_lift HXA fun _ HLO => rt_idx 0 2 (by omega) (by omega) rfl rfl rfl rfl rfl rfl rfl)
    · exact ob_un (dv_lift HXA fun _ HLO => rt_load 3 rfl rfl rfl rfl)
    · exact ob_un (rx_field (fun w => by go_simp) rfl rfl rfl)
    · exact ob_un (rx_store 5 (by have := HGL.out; have := HLT.out; have := HTB.out; omega) (by have := HG.out; have := HGL.out; have := HLT.out; have := HTB.out; omega) (by have := HG.out; have := HGL.out; have := HLT.out; have := HTB.out; omega) (fun w' y h => by
      obtain ⟨r1, r2⟩ := ask_field1 w' y h.2
      exact ⟨r1, gx_chg h.1 ((Chg.refl (fun j => j = B) _).set (p := ⟨B, 1, none⟩) rfl _) HTB.out (by have := HG.out; have := HGL.out; have := HLT.out; omega) HU.out HW.out, r2⟩) rfl rfl rfl (oi_in 4 rfl rfl rfl) rfl)
    intro u12 w12 hI hF
    obtain ⟨f0, f1, f2, f3, f4, f5, f6, -⟩ := hF
    have DD := hid (hI.re (K' := 1) (p' := 330) (by simp))
    clear f0 f1 f2 f3 f4 f5 f6 hI
    simp only [outTmps, List.setIfInBounds_toArray, List.set_cons_zero, List.set_cons_succ]
    have DF : Hid (DV w w g w.heap.size 340 100 [] (fun wx => GX w.heap.size T L pc ht (.slice a1 4 c1) (.slice a2 m c2) m wx ∧ AskHas B T wx) 0 _) := hid ⟨DD.out.1.re (K' := 100) (by omega), DD.out.2.1, (show AskHas B T _ from by obtain ⟨k, y, t, h, f, hv⟩ := DD.out.2.2; exact ⟨k, y, t, h, f, none, 0, [], hv, own_nil _, by simp⟩)⟩
    have HXF : Stands g (fun wx => GX w.heap.size T L pc ht (.slice a1 4 c1) (.slice a2 m c2) m wx ∧ AskHas B T wx) := fun w' w'' hb hh => ⟨HX _ _ hb hh.1, ah_stands (by have := HGL.out; have := HLT.out; have := HTB.out; omega) (by have := HGL.out; have := HLT.out; omega) _ _ hb hh.2⟩
    have HE : EStands g (TE w.heap.size T pc ht (.slice a1 4 c1) (.slice a2 m c2)) := te_stands HG.out (by have := HGL.out; have := HLT.out; omega)
    clear DD
    go_upto_region 17 with fail
    refine region_facts (FE g w.heap.size [.is (.agg #[.int .i64 pc, .slice a1 4 c1, .slice a2 m c2, .int .i64 ht]), .any, .is (.pointer (some ⟨g, 0, none⟩)), .any, .is (.pointer (some ⟨g, 0, none⟩)), .rng 3, .bool, .any, .any, .any, .bool] (TE w.heap.size T pc ht (.slice a1 4 c1) (.slice a2 m c2))) (DV w w g w.heap.size 340 100 [] (fun wx => GX w.heap.size T L pc ht (.slice a1 4 c1) (.slice a2 m c2) m wx ∧ AskHas B T wx)) (by kernel_rfl) (by kernel_rfl) (DF.out.drew HXF) ⟨?_, ?_, ?_, ?_, ?_, ?_, ?_, ?_, ?_, ?_, ?_, trivial⟩ ?_
    · refine ob_un (ob_val fun n a w' hn hI hat => by
      have e : a.tmps[7]?.getD undef = .pointer (some ⟨T, 0, none⟩) := at_out hat rfl rfl
      have hld := ld_vm hI.2.1.2.2.2.1
      refine ⟨.agg #[.int .i64 pc, .slice a1 4 c1, .slice a2 m c2, .int .i64 ht], w', ?_, ⟨rfl, trivial⟩, ⟨hI.1.same, hI.2⟩, fun _ _ _ h => h⟩
      simp only [execOp, eval_tmp, e]
      simp only [Sem.run_bind, hld]
      rfl)
    · refine ob_un (ob_val fun n a w' hn hI hat => by
      have e : a.tmps[8]?.getD undef = .pointer (some ⟨B, 0, none⟩) := at_out hat rfl rfl
      obtain ⟨k, y, t, h, f, aa, c, bs, hvb, ho, hl⟩ := hI.2.2
      have hld := ld_ask hvb
      refine ⟨.agg #[.int .i64 k, .int .i64 y, .slice aa bs.length c, .int .i64 t, .int .i64 h, .int .i64 f], w', ?_, ⟨trivial, k, y, t, h, f, aa, c, bs, rfl, ho, hl⟩, ⟨hI.1.same, hI.2⟩, fun _ _ _ h => h⟩
      simp only [execOp, eval_tmp, e]
      simp only [Sem.run_bind, hld]
      rfl)
    · exact ob_un (fe_lift HXF HE (fun _ _ => trivial) fun _ HLO => rt_move (.pointer (some ⟨g, 0, none⟩)) rfl rfl rfl)
    · refine ob_un (ob_call (fun xs w => by go_simp) fun n a w' hn hI hat => by
      have h : _ = _ := is_in 2 (fe_at hat) rfl rfl rfl
      have e : (#[Operand.tmp 71].map a.eval) = #[.pointer (some ⟨g, 0, none⟩)] := by simp [eval_tmp, h]
      rw [e]
      obtain ⟨⟨q, h1, h2⟩, h3, h4, h5, h6, h7⟩ := hI.1
      have hn2 : n < 11 := hn
      have hb : (n + 1) * 100 ≤ 11 * 100 := Nat.mul_le_mul_right _ (by omega)
      rw [Nat.add_mul] at hb
      have hTw := hI.2.1.1
      refine (drawMessage_any w w' g q h2 (by omega)).mono ?_
      rintro e w3 ⟨uu, xs, rfl, hxs, ho, ⟨q', hq', rd⟩, gr⟩
      have hx := fun lo => ext_grown (lo := lo) gr
      exact ⟨_, rfl, ⟨trivial, xs, ho.low (by omega), hxs⟩, ⟨⟨⟨q', by rw [Nat.add_mul]; omega, rd⟩, gtrans h3 gr, h4, by have := gr.size; omega, (fun x hx' => by cases hx'), h7⟩, HXF _ _ gr hI.2⟩, fun j x hj hu => ⟨fs_mono (hx _) j x hj hu.1, HE j x _ _ gr hu.2⟩⟩)
    · exact ob_un (fe_lift HXF HE (fun _ _ => trivial) fun _ HLO => rt_move (.pointer (some ⟨g, 0, none⟩)) rfl rfl rfl)
    · exact ob_un (fe_lift HXF HE (fun _ _ => trivial) fun _ HLO => rt_pick (m := 3) 4 (by omega) (by simp <;> omega) (by omega) (by omega) rfl rfl rfl rfl)
    · refine ob_un (ob_val fun n a w' hn hI hat => by
      obtain ⟨k, hk, _, _⟩ : ∃ x : Int, a.tmps[74]?.getD undef = .int .i64 x ∧ 0 ≤ x ∧ x < ((3 : Nat) : Int) := fs_in (s := 74) (j := 5) (fe_at hat) rfl rfl rfl
      refine ⟨.bool (decide (0 < k)), w', ?_, ⟨⟨_, rfl⟩, trivial⟩, ⟨hI.1.same, hI.2⟩, fun _ _ _ h => h⟩
      clear hI hat
      simp only [execOp, eval_tmp, hk]
      go_simp)
    · refine ob_un (ob_skip fun n a w' hn hI hat => by
      have h0 : a.tmps[2]?.getD undef = .pointer (some ⟨w.heap.size, 0, none⟩) := at_out hat rfl rfl
      have h1 : a.tmps[69]?.getD undef = .agg #[.int .i64 pc, .slice a1 4 c1, .slice a2 m c2, .int .i64 ht] := fs_in (s := 69) (j := 0) (fe_at hat) rfl rfl rfl
      have q1 := HG.out
      have q2 := HGL.out
      have q3 := HLT.out
      have q4 := HTB.out
      obtain ⟨hx, ⟨k0, ks, ka, kt, xs, ys, ko, kp⟩, kh⟩ := hI
      have hst := st_vm ks pc ht a1 a2 4 c1 m c2
      obtain ⟨_, _, _, _, _, _, _, _, kv⟩ := ks
      have hch : Chg (fun j => j = w.heap.size) w' (vm4 w' w.heap.size (.int .i64 pc) (.slice a1 4 c1) (.slice a2 m c2) (.int .i64 ht)) := vbchg4 (.int .i64 pc) (.slice a1 4 c1) (.slice a2 m c2) (.int .i64 ht) rfl
      have hvb' : VB (vm4 w' w.heap.size (.int .i64 pc) (.slice a1 4 c1) (.slice a2 m c2) (.int .i64 ht)) _ _ := vbset4 (.int .i64 pc) (.slice a1 4 c1) (.slice a2 m c2) (.int .i64 ht) kv
      have hc1 := (vb4 kv).2.1
      have d0 := (vb4 hvb').1
      have hex : Ext g w.heap.size w' _ := ext_of (ys := [pc]) hch hc1 (fun n e => by cases e) ⟨fun i hi => by match i, hi with | 0, _ => exact d0, hvb'.2.1, hvb'.2.2⟩
      obtain ⟨_, _, _, _, _, _, _, _, ka⟩ := ka
      refine ⟨_, ?_, ⟨trivial, hvb'⟩, ⟨((((hx.setV _ (by omega) (by omega) (by omega)).setV _ (by omega) (by omega) (by omega)).setV _ (by omega) (by omega) (by omega)).setV _ (by omega) (by omega) (by omega)).same, ⟨Nat.lt_of_lt_of_le k0 hch.size, ⟨_, _, _, _, _, _, _, _, hvb'⟩, ⟨_, _, _, _, _, _, _, _, ka.chg hch (by first | omega | (dsimp only; omega))⟩, kt.chg hch (by first | omega | (dsimp only; omega)), xs, ys, ko.chg hch (fun j hj => by have := (ko.blk j hj).1; first | omega | (dsimp only; omega)), kp.chg hch (fun j hj => by have := (kp.blk j hj).1; first | omega | (dsimp only; omega))⟩, ah_chg kh hch (by first | omega | (dsimp only; omega)) (fun j hj => by first | omega | (dsimp only; omega))⟩, fun j x hj hu => ⟨fs_mono hex j x hj hu.1, te_chg hu.2 hch (by omega) (fun e => absurd e hj) (fun e => by omega)⟩⟩
      simp only [execOp, eval_tmp, h0, h1]
      simp only [Sem.run_bind, hst]
      rfl)
    · refine ob_un (ob_skip fun n a w' hn hI hat => by
      have h0 : a.tmps[3]?.getD undef = .pointer (some ⟨w.heap.size + 1, 0, none⟩) := at_out hat rfl rfl
      obtain ⟨k, y, t, h, f, aa, c, bs, h1, h2, h3⟩ := fe_in hat (s := 70) (j := 1) rfl rfl
      have q1 := HG.out
      have q2 := HGL.out
      have q3 := HLT.out
      have q4 := HTB.out
      obtain ⟨hx, ⟨k0, ks, ka, kt, xs, ys, ko, kp⟩, kh⟩ := hI
      obtain ⟨_, _, _, _, _, _, _, _, kv⟩ := ka
      have hst := st_ask kv k y t h f aa bs.length c
      have hch : Chg (fun j => j = w.heap.size + 1) w' _ := vbchg6V (w := w') (b := w.heap.size + 1) (.int .i64 k) (.int .i64 y) (.slice aa bs.length c) (.int .i64 t) (.int .i64 h) (.int .i64 f) rfl
      have hvb' := vbset6V (.int .i64 k) (.int .i64 y) (.slice aa bs.length c) (.int .i64 t) (.int .i64 h) (.int .i64 f) kv
      have hc2 := (vb6V kv).2.2.1
      obtain ⟨d0, d1, _⟩ := vb6V hvb'
      have hex : Ext g w.heap.size w' _ := ext_of (ys := [k, y]) hch hc2 (fun n e => by cases e) ⟨fun i hi => by match i, hi with | 0, _ => exact d0 | 1, _ => exact d1, hvb'.2.1, hvb'.2.2⟩
      obtain ⟨_, _, _, _, _, _, _, _, ks⟩ := ks
      refine ⟨_, ?_, ⟨trivial, k, y, t, h, f, aa, c, bs, hvb', own_chgV h2 hch (fun j hj => by first | omega | (dsimp only; omega)), h3⟩, ⟨((((((hx.setV _ (by omega) (by omega) (by omega)).setV _ (by omega) (by omega) (by omega)).setV _ (by omega) (by omega) (by omega)).setV _ (by omega) (by omega) (by omega)).setV _ (by omega) (by omega) (by omega)).setV _ (by omega) (by omega) (by omega)).same, ⟨Nat.lt_of_lt_of_le k0 hch.size, ⟨_, _, _, _, _, _, _, _, ks.chg hch (by first | omega | (dsimp only; omega))⟩, ⟨_, _, _, _, _, _, _, _, hvb'⟩, kt.chg hch (by first | omega | (dsimp only; omega)), xs, ys, ko.chg hch (fun j hj => by have := (ko.blk j hj).1; first | omega | (dsimp only; omega)), kp.chg hch (fun j hj => by have := (kp.blk j hj).1; first | omega | (dsimp only; omega))⟩, ah_chg kh hch (by first | omega | (dsimp only; omega)) (fun j hj => by first | omega | (dsimp only; omega))⟩, fun j x hj hu => ⟨fs_mono hex j x hj hu.1, te_chg hu.2 hch (by omega) (fun e => by omega) (fun e => absurd e hj)⟩⟩
      simp only [execOp, eval_tmp, h0, h1]
      simp only [Sem.run_bind, hst]
      rfl)
    · refine ob_un (ob_val fun n a w' hn hI hat => by
      have hf := fe_in hat (s := 72) (j := 3) rfl rfl
      exact ⟨a.tmps[72]?.getD undef, w', by simp only [execOp, eval_tmp]; rfl, ⟨trivial, hf⟩, ⟨hI.1.same, hI.2⟩, fun _ _ _ h => h⟩)
    · refine ob_un (ob_val fun n a w' hn hI hat => by
      have hf := fs_in (t := .bool) (s := 75) (j := 6) (fe_at hat) rfl rfl rfl
      exact ⟨a.tmps[75]?.getD undef, w', by simp only [execOp, eval_tmp]; rfl, ⟨hf, trivial⟩, ⟨hI.1.same, hI.2⟩, fun _ _ _ h => h⟩)
    intro u17 w17 hI hF
    obtain ⟨f0, f1, f2, f3, f4, f5, f6, f7, f8, f9, f10, -⟩ := hF
    obtain ⟨yes, hyes⟩ : ∃ b, u17 5 = .bool b := f10.1
    obtain ⟨got, og, hgl⟩ := f9.2
    obtain ⟨k, y, t, h, f, aa, c, bs, hvb, ho, hbl⟩ := f8.2
    have hvm := f7.2
    obtain ⟨xs', ys', k4, k5⟩ := hI.2.1.2.2.2.2
    have BW := hid (hI.1.below (by have := HG.out; omega))
    have HM := hid hvm
    have HA := hid hvb
    have P1 := hid (k4.rd (by omega))
    have P2 := hid (k5.rd (by omega))
    have P3 := hid (ho.rd (by omega))
    have P4 := hid (og.rd (by omega))
    clear f0 f1 f2 f3 f4 f5 f6 f7 f8 f9 f10 hI hvm hvb ho og k4 k5
    simp only [outTmps, List.setIfInBounds_toArray, List.set_cons_zero, List.set_cons_succ, hyes]
    go_wp2_with fail
    refine bodyPost_ret (res_drawVm _ rfl rfl HM.out HA.out rfl rfl) rfl ?_
    exact ⟨pc, ht, _, _, k, y, t, h, f, aa, c, _, yes, m, xs', ys', bs, got, rfl, P1.out, P2.out, hm9, P3.out, hbl, P4.out, hgl, BW.out⟩
  have d3 : (x == 3) = false := by simpa using e3
  by_cases e4 : x = 4
  · subst e4
    obtain ⟨hD, hX1, k, y, t, h, f, hv⟩ := DD.out
    obtain ⟨e0, e1, e2, e3, e4, e5⟩ := vb6V hv
    have ff := hv.2.1
    have DD : Hid (DV w w g w.heap.size 330 1 [] (fun wx => GX w.heap.size T L pc ht (.slice a1 4 c1) (.slice a2 m c2) m wx ∧ AskNil B wx) 0 (w4.setCell ⟨B, 5, none⟩ (.int .i64 4))) := hid ⟨(hD.setV (b := B) (i := 5) (.int .i64 4) (by have := HGL.out; have := HLT.out; have := HTB.out; omega) (by have := HG.out; have := HGL.out; have := HLT.out; have := HTB.out; omega) (by have := HG.out; have := HGL.out; have := HLT.out; have := HTB.out; omega)).re (by omega), gx_chg hX1 ((Chg.refl (fun j => j = B) _).set (p := ⟨B, 5, none⟩) rfl _) HTB.out (by have := HG.out; have := HGL.out; have := HLT.out; omega) HU.out HW.out, k, y, t, h, 4, hv.set (i := 5) (by simp) _⟩
    clear hD hX1 hv
    have DF : Hid (DV w w g w.heap.size 340 100 [] (fun wx => GX w.heap.size T L pc ht (.slice a1 4 c1) (.slice a2 m c2) m wx ∧ AskHas B T wx) 0 _) := hid ⟨DD.out.1.re (K' := 100) (by omega), DD.out.2.1, (show AskHas B T _ from by obtain ⟨k, y, t, h, f, hv⟩ := DD.out.2.2; exact ⟨k, y, t, h, f, none, 0, [], hv, own_nil _, by simp⟩)⟩
    have HXF : Stands g (fun wx => GX w.heap.size T L pc ht (.slice a1 4 c1) (.slice a2 m c2) m wx ∧ AskHas B T wx) := fun w' w'' hb hh => ⟨HX _ _ hb hh.1, ah_stands (by have := HGL.out; have := HLT.out; have := HTB.out; omega) (by have := HGL.out; have := HLT.out; omega) _ _ hb hh.2⟩
    have HE : EStands g (TE w.heap.size T pc ht (.slice a1 4 c1) (.slice a2 m c2)) := te_stands HG.out (by have := HGL.out; have := HLT.out; omega)
    clear DD
    go_upto_region 17 with fail
    refine region_facts (FE g w.heap.size [.is (.agg #[.int .i64 pc, .slice a1 4 c1, .slice a2 m c2, .int .i64 ht]), .any, .is (.pointer (some ⟨g, 0, none⟩)), .any, .is (.pointer (some ⟨g, 0, none⟩)), .rng 3, .bool, .any, .any, .any, .bool] (TE w.heap.size T pc ht (.slice a1 4 c1) (.slice a2 m c2))) (DV w w g w.heap.size 340 100 [] (fun wx => GX w.heap.size T L pc ht (.slice a1 4 c1) (.slice a2 m c2) m wx ∧ AskHas B T wx)) (by kernel_rfl) (by kernel_rfl) (DF.out.drew HXF) ⟨?_, ?_, ?_, ?_, ?_, ?_, ?_, ?_, ?_, ?_, ?_, trivial⟩ ?_
    · refine ob_un (ob_val fun n a w' hn hI hat => by
      have e : a.tmps[7]?.getD undef = .pointer (some ⟨T, 0, none⟩) := at_out hat rfl rfl
      have hld := ld_vm hI.2.1.2.2.2.1
      refine ⟨.agg #[.int .i64 pc, .slice a1 4 c1, .slice a2 m c2, .int .i64 ht], w', ?_, ⟨rfl, trivial⟩, ⟨hI.1.same, hI.2⟩, fun _ _ _ h => h⟩
      simp only [execOp, eval_tmp, e]
      simp only [Sem.run_bind, hld]
      rfl)
    · refine ob_un (ob_val fun n a w' hn hI hat => by
      have e : a.tmps[8]?.getD undef = .pointer (some ⟨B, 0, none⟩) := at_out hat rfl rfl
      obtain ⟨k, y, t, h, f, aa, c, bs, hvb, ho, hl⟩ := hI.2.2
      have hld := ld_ask hvb
      refine ⟨.agg #[.int .i64 k, .int .i64 y, .slice aa bs.length c, .int .i64 t, .int .i64 h, .int .i64 f], w', ?_, ⟨trivial, k, y, t, h, f, aa, c, bs, rfl, ho, hl⟩, ⟨hI.1.same, hI.2⟩, fun _ _ _ h => h⟩
      simp only [execOp, eval_tmp, e]
      simp only [Sem.run_bind, hld]
      rfl)
    · exact ob_un (fe_lift HXF HE (fun _ _ => trivial) fun _ HLO => rt_move (.pointer (some ⟨g, 0, none⟩)) rfl rfl rfl)
    · refine ob_un (ob_call (fun xs w => by go_simp) fun n a w' hn hI hat => by
      have h : _ = _ := is_in 2 (fe_at hat) rfl rfl rfl
      have e : (#[Operand.tmp 71].map a.eval) = #[.pointer (some ⟨g, 0, none⟩)] := by simp [eval_tmp, h]
      rw [e]
      obtain ⟨⟨q, h1, h2⟩, h3, h4, h5, h6, h7⟩ := hI.1
      have hn2 : n < 11 := hn
      have hb : (n + 1) * 100 ≤ 11 * 100 := Nat.mul_le_mul_right _ (by omega)
      rw [Nat.add_mul] at hb
      have hTw := hI.2.1.1
      refine (drawMessage_any w w' g q h2 (by omega)).mono ?_
      rintro e w3 ⟨uu, xs, rfl, hxs, ho, ⟨q', hq', rd⟩, gr⟩
      have hx := fun lo => ext_grown (lo := lo) gr
      exact ⟨_, rfl, ⟨trivial, xs, ho.low (by omega), hxs⟩, ⟨⟨⟨q', by rw [Nat.add_mul]; omega, rd⟩, gtrans h3 gr, h4, by have := gr.size; omega, (fun x hx' => by cases hx'), h7⟩, HXF _ _ gr hI.2⟩, fun j x hj hu => ⟨fs_mono (hx _) j x hj hu.1, HE j x _ _ gr hu.2⟩⟩)
    · exact ob_un (fe_lift HXF HE (fun _ _ => trivial) fun _ HLO => rt_move (.pointer (some ⟨g, 0, none⟩)) rfl rfl rfl)
    · exact ob_un (fe_lift HXF HE (fun _ _ => trivial) fun _ HLO => rt_pick (m := 3) 4 (by omega) (by simp <;> omega) (by omega) (by omega) rfl rfl rfl rfl)
    · refine ob_un (ob_val fun n a w' hn hI hat => by
      obtain ⟨k, hk, _, _⟩ : ∃ x : Int, a.tmps[74]?.getD undef = .int .i64 x ∧ 0 ≤ x ∧ x < ((3 : Nat) : Int) := fs_in (s := 74) (j := 5) (fe_at hat) rfl rfl rfl
      refine ⟨.bool (decide (0 < k)), w', ?_, ⟨⟨_, rfl⟩, trivial⟩, ⟨hI.1.same, hI.2⟩, fun _ _ _ h => h⟩
      clear hI hat
      simp only [execOp, eval_tmp, hk]
      go_simp)
    · refine ob_un (ob_skip fun n a w' hn hI hat => by
      have h0 : a.tmps[2]?.getD undef = .pointer (some ⟨w.heap.size, 0, none⟩) := at_out hat rfl rfl
      have h1 : a.tmps[69]?.getD undef = .agg #[.int .i64 pc, .slice a1 4 c1, .slice a2 m c2, .int .i64 ht] := fs_in (s := 69) (j := 0) (fe_at hat) rfl rfl rfl
      have q1 := HG.out
      have q2 := HGL.out
      have q3 := HLT.out
      have q4 := HTB.out
      obtain ⟨hx, ⟨k0, ks, ka, kt, xs, ys, ko, kp⟩, kh⟩ := hI
      have hst := st_vm ks pc ht a1 a2 4 c1 m c2
      obtain ⟨_, _, _, _, _, _, _, _, kv⟩ := ks
      have hch : Chg (fun j => j = w.heap.size) w' (vm4 w' w.heap.size (.int .i64 pc) (.slice a1 4 c1) (.slice a2 m c2) (.int .i64 ht)) := vbchg4 (.int .i64 pc) (.slice a1 4 c1) (.slice a2 m c2) (.int .i64 ht) rfl
      have hvb' : VB (vm4 w' w.heap.size (.int .i64 pc) (.slice a1 4 c1) (.slice a2 m c2) (.int .i64 ht)) _ _ := vbset4 (.int .i64 pc) (.slice a1 4 c1) (.slice a2 m c2) (.int .i64 ht) kv
      have hc1 := (vb4 kv).2.1
      have d0 := (vb4 hvb').1
      have hex : Ext g w.heap.size w' _ := ext_of (ys := [pc]) hch hc1 (fun n e => by cases e) ⟨fun i hi => by match i, hi with | 0, _ => exact d0, hvb'.2.1, hvb'.2.2⟩
      obtain ⟨_, _, _, _, _, _, _, _, ka⟩ := ka
      refine ⟨_, ?_, ⟨trivial, hvb'⟩, ⟨((((hx.setV _ (by omega) (by omega) (by omega)).setV _ (by omega) (by omega) (by omega)).setV _ (by omega) (by omega) (by omega)).setV _ (by omega) (by omega) (by omega)).same, ⟨Nat.lt_of_lt_of_le k0 hch.size, ⟨_, _, _, _, _, _, _, _, hvb'⟩, ⟨_, _, _, _, _, _, _, _, ka.chg hch (by first | omega | (dsimp only; omega))⟩, kt.chg hch (by first | omega | (dsimp only; omega)), xs, ys, ko.chg hch (fun j hj => by have := (ko.blk j hj).1; first | omega | (dsimp only; omega)), kp.chg hch (fun j hj => by have := (kp.blk j hj).1; first | omega | (dsimp only; omega))⟩, ah_chg kh hch (by first | omega | (dsimp only; omega)) (fun j hj => by first | omega | (dsimp only; omega))⟩, fun j x hj hu => ⟨fs_mono hex j x hj hu.1, te_chg hu.2 hch (by omega) (fun e => absurd e hj) (fun e => by omega)⟩⟩
      simp only [execOp, eval_tmp, h0, h1]
      simp only [Sem.run_bind, hst]
      rfl)
    · refine ob_un (ob_skip fun n a w' hn hI hat => by
      have h0 : a.tmps[3]?.getD undef = .pointer (some ⟨w.heap.size + 1, 0, none⟩) := at_out hat rfl rfl
      obtain ⟨k, y, t, h, f, aa, c, bs, h1, h2, h3⟩ := fe_in hat (s := 70) (j := 1) rfl rfl
      have q1 := HG.out
      have q2 := HGL.out
      have q3 := HLT.out
      have q4 := HTB.out
      obtain ⟨hx, ⟨k0, ks, ka, kt, xs, ys, ko, kp⟩, kh⟩ := hI
      obtain ⟨_, _, _, _, _, _, _, _, kv⟩ := ka
      have hst := st_ask kv k y t h f aa bs.length c
      have hch : Chg (fun j => j = w.heap.size + 1) w' _ := vbchg6V (w := w') (b := w.heap.size + 1) (.int .i64 k) (.int .i64 y) (.slice aa bs.length c) (.int .i64 t) (.int .i64 h) (.int .i64 f) rfl
      have hvb' := vbset6V (.int .i64 k) (.int .i64 y) (.slice aa bs.length c) (.int .i64 t) (.int .i64 h) (.int .i64 f) kv
      have hc2 := (vb6V kv).2.2.1
      obtain ⟨d0, d1, _⟩ := vb6V hvb'
      have hex : Ext g w.heap.size w' _ := ext_of (ys := [k, y]) hch hc2 (fun n e => by cases e) ⟨fun i hi => by match i, hi with | 0, _ => exact d0 | 1, _ => exact d1, hvb'.2.1, hvb'.2.2⟩
      obtain ⟨_, _, _, _, _, _, _, _, ks⟩ := ks
      refine ⟨_, ?_, ⟨trivial, k, y, t, h, f, aa, c, bs, hvb', own_chgV h2 hch (fun j hj => by first | omega | (dsimp only; omega)), h3⟩, ⟨((((((hx.setV _ (by omega) (by omega) (by omega)).setV _ (by omega) (by omega) (by omega)).setV _ (by omega) (by omega) (by omega)).setV _ (by omega) (by omega) (by omega)).setV _ (by omega) (by omega) (by omega)).setV _ (by omega) (by omega) (by omega)).same, ⟨Nat.lt_of_lt_of_le k0 hch.size, ⟨_, _, _, _, _, _, _, _, ks.chg hch (by first | omega | (dsimp only; omega))⟩, ⟨_, _, _, _, _, _, _, _, hvb'⟩, kt.chg hch (by first | omega | (dsimp only; omega)), xs, ys, ko.chg hch (fun j hj => by have := (ko.blk j hj).1; first | omega | (dsimp only; omega)), kp.chg hch (fun j hj => by have := (kp.blk j hj).1; first | omega | (dsimp only; omega))⟩, ah_chg kh hch (by first | omega | (dsimp only; omega)) (fun j hj => by first | omega | (dsimp only; omega))⟩, fun j x hj hu => ⟨fs_mono hex j x hj hu.1, te_chg hu.2 hch (by omega) (fun e => by omega) (fun e => absurd e hj)⟩⟩
      simp only [execOp, eval_tmp, h0, h1]
      simp only [Sem.run_bind, hst]
      rfl)
    · refine ob_un (ob_val fun n a w' hn hI hat => by
      have hf := fe_in hat (s := 72) (j := 3) rfl rfl
      exact ⟨a.tmps[72]?.getD undef, w', by simp only [execOp, eval_tmp]; rfl, ⟨trivial, hf⟩, ⟨hI.1.same, hI.2⟩, fun _ _ _ h => h⟩)
    · refine ob_un (ob_val fun n a w' hn hI hat => by
      have hf := fs_in (t := .bool) (s := 75) (j := 6) (fe_at hat) rfl rfl rfl
      exact ⟨a.tmps[75]?.getD undef, w', by simp only [execOp, eval_tmp]; rfl, ⟨hf, trivial⟩, ⟨hI.1.same, hI.2⟩, fun _ _ _ h => h⟩)
    intro u17 w17 hI hF
    obtain ⟨f0, f1, f2, f3, f4, f5, f6, f7, f8, f9, f10, -⟩ := hF
    obtain ⟨yes, hyes⟩ : ∃ b, u17 5 = .bool b := f10.1
    obtain ⟨got, og, hgl⟩ := f9.2
    obtain ⟨k, y, t, h, f, aa, c, bs, hvb, ho, hbl⟩ := f8.2
    have hvm := f7.2
    obtain ⟨xs', ys', k4, k5⟩ := hI.2.1.2.2.2.2
    have BW := hid (hI.1.below (by have := HG.out; omega))
    have HM := hid hvm
    have HA := hid hvb
    have P1 := hid (k4.rd (by omega))
    have P2 := hid (k5.rd (by omega))
    have P3 := hid (ho.rd (by omega))
    have P4 := hid (og.rd (by omega))
    clear f0 f1 f2 f3 f4 f5 f6 f7 f8 f9 f10 hI hvm hvb ho og k4 k5
    simp only [outTmps, List.setIfInBounds_toArray, List.set_cons_zero, List.set_cons_succ, hyes]
    go_wp2_with fail
    refine bodyPost_ret (res_drawVm _ rfl rfl HM.out HA.out rfl rfl) rfl ?_
    exact ⟨pc, ht, _, _, k, y, t, h, f, aa, c, _, yes, m, xs', ys', bs, got, rfl, P1.out, P2.out, hm9, P3.out, hbl, P4.out, hgl, BW.out⟩
  have d4 : (x == 4) = false := by simpa using e4
  by_cases e5 : x = 5
  · subst e5
    obtain ⟨hD, hX1, hN⟩ := DD.out
    obtain ⟨q5, hq5, rd5⟩ := hD.1
    have RD5 := hid rd5
    have HD := hid hD
    have HX1 := hid hX1
    have HN := hid hN
    clear hD hX1 hN rd5 DD
    go_wp2_with fail
    refine (drawBytes_any 9 _ _ _ _ RD5.out (by omega) (by omega)).mono ?_
    rintro e w5 ⟨ub, bs, rfl, hbs, ob, rd6, gr⟩
    have HBS := hid hbs
    clear hbs
    have q1 := HG.out
    have q2 := HGL.out
    have q3 := HLT.out
    have q4 := HTB.out
    have HD := hid (show DW w w g w.heap.size 330 1 [] 0 w5 from ⟨⟨_, by omega, rd6⟩, gtrans HD.out.2.1 gr, HD.out.2.2.1, Nat.le_trans HD.out.2.2.2.1 gr.size, (fun x hx => by cases hx), Nat.le_refl _⟩)
    have hTw := HX1.out.1
    have hBw : B < w4.heap.size := by obtain ⟨_, _, _, _, _, hh⟩ := HN.out; exact hh.2.2
    have HX1 := hid (HX _ _ gr HX1.out)
    have HN := hid (ak_stands (by omega) _ _ gr HN.out)
    have OB := hid (own_chgV (S := fun j => j = B) ob ((Chg.refl (fun j => j = B) _).set (p := ⟨B, 2, none⟩) rfl ub) (fun j hj => by first | omega | (dsimp only; omega)))
    clear ob rd6 gr
    obtain ⟨ab, cb, rfl, _⟩ := own_form OB.out
    obtain ⟨k, y, t, h, f, hv⟩ := HN.out
    obtain ⟨e0, e1, e2, e3, e4, e5⟩ := vb6V hv
    have ff := hv.2.1
    have HS := hid (hv.set (i := 2) (by simp) (.slice ab bs.length cb))
    have DD : Hid (DV w w g w.heap.size 330 1 [] (fun wx => GX w.heap.size T L pc ht (.slice a1 4 c1) (.slice a2 m c2) m wx ∧ AskHas B T wx) 0 (w5.setCell ⟨B, 2, none⟩ (.slice ab bs.length cb))) := hid ⟨HD.out.setV _ (by omega) (by omega) (by omega), gx_chg HX1.out ((Chg.refl (fun j => j = B) _).set (p := ⟨B, 2, none⟩) rfl _) HTB.out (by omega) HU.out HW.out, k, y, t, h, f, ab, cb, bs, HS.out, OB.out.low (by omega), by have := HBS.out; omega⟩
    clear q1 q2 q3 q4 hTw hBw HX1 HN OB HS HD hv
    have DF : Hid (DV w w g w.heap.size 340 100 [] (fun wx => GX w.heap.size T L pc ht (.slice a1 4 c1) (.slice a2 m c2) m wx ∧ AskHas B T wx) 0 _) := hid ⟨DD.out.1.re (K' := 100) (by omega), DD.out.2.1, DD.out.2.2⟩
    have HXF : Stands g (fun wx => GX w.heap.size T L pc ht (.slice a1 4 c1) (.slice a2 m c2) m wx ∧ AskHas B T wx) := fun w' w'' hb hh => ⟨HX _ _ hb hh.1, ah_stands (by have := HGL.out; have := HLT.out; have := HTB.out; omega) (by have := HGL.out; have := HLT.out; omega) _ _ hb hh.2⟩
    have HE : EStands g (TE w.heap.size T pc ht (.slice a1 4 c1) (.slice a2 m c2)) := te_stands HG.out (by have := HGL.out; have := HLT.out; omega)
    clear DD
    go_upto_region 17 with fail
    refine region_facts (FE g w.heap.size [.is (.agg #[.int .i64 pc, .slice a1 4 c1, .slice a2 m c2, .int .i64 ht]), .any, .is (.pointer (some ⟨g, 0, none⟩)), .any, .is (.pointer (some ⟨g, 0, none⟩)), .rng 3, .bool, .any, .any, .any, .bool] (TE w.heap.size T pc ht (.slice a1 4 c1) (.slice a2 m c2))) (DV w w g w.heap.size 340 100 [] (fun wx => GX w.heap.size T L pc ht (.slice a1 4 c1) (.slice a2 m c2) m wx ∧ AskHas B T wx)) (by kernel_rfl) (by kernel_rfl) (DF.out.drew HXF) ⟨?_, ?_, ?_, ?_, ?_, ?_, ?_, ?_, ?_, ?_, ?_, trivial⟩ ?_
    · refine ob_un (ob_val fun n a w' hn hI hat => by
      have e : a.tmps[7]?.getD undef = .pointer (some ⟨T, 0, none⟩) := at_out hat rfl rfl
      have hld := ld_vm hI.2.1.2.2.2.1
      refine ⟨.agg #[.int .i64 pc, .slice a1 4 c1, .slice a2 m c2, .int .i64 ht], w', ?_, ⟨rfl, trivial⟩, ⟨hI.1.same, hI.2⟩, fun _ _ _ h => h⟩
      simp only [execOp, eval_tmp, e]
      simp only [Sem.run_bind, hld]
      rfl)
    · refine ob_un (ob_val fun n a w' hn hI hat => by
      have e : a.tmps[8]?.getD undef = .pointer (some ⟨B, 0, none⟩) := at_out hat rfl rfl
      obtain ⟨k, y, t, h, f, aa, c, bs, hvb, ho, hl⟩ := hI.2.2
      have hld := ld_ask hvb
      refine ⟨.agg #[.int .i64 k, .int .i64 y, .slice aa bs.length c, .int .i64 t, .int .i64 h, .int .i64 f], w', ?_, ⟨trivial, k, y, t, h, f, aa, c, bs, rfl, ho, hl⟩, ⟨hI.1.same, hI.2⟩, fun _ _ _ h => h⟩
      simp only [execOp, eval_tmp, e]
      simp only [Sem.run_bind, hld]
      rfl)
    · exact ob_un (fe_lift HXF HE (fun _ _ => trivial) fun _ HLO => rt_move (.pointer (some ⟨g, 0, none⟩)) rfl rfl rfl)
    · refine ob_un (ob_call (fun xs w => by go_simp) fun n a w' hn hI hat => by
      have h : _ = _ := is_in 2 (fe_at hat) rfl rfl rfl
      have e : (#[Operand.tmp 71].map a.eval) = #[.pointer (some ⟨g, 0, none⟩)] := by simp [eval_tmp, h]
      rw [e]
      obtain ⟨⟨q, h1, h2⟩, h3, h4, h5, h6, h7⟩ := hI.1
      have hn2 : n < 11 := hn
      have hb : (n + 1) * 100 ≤ 11 * 100 := Nat.mul_le_mul_right _ (by omega)
      rw [Nat.add_mul] at hb
      have hTw := hI.2.1.1
      refine (drawMessage_any w w' g q h2 (by omega)).mono ?_
      rintro e w3 ⟨uu, xs, rfl, hxs, ho, ⟨q', hq', rd⟩, gr⟩
      have hx := fun lo => ext_grown (lo := lo) gr
      exact ⟨_, rfl, ⟨trivial, xs, ho.low (by omega), hxs⟩, ⟨⟨⟨q', by rw [Nat.add_mul]; omega, rd⟩, gtrans h3 gr, h4, by have := gr.size; omega, (fun x hx' => by cases hx'), h7⟩, HXF _ _ gr hI.2⟩, fun j x hj hu => ⟨fs_mono (hx _) j x hj hu.1, HE j x _ _ gr hu.2⟩⟩)
    · exact ob_un (fe_lift HXF HE (fun _ _ => trivial) fun _ HLO => rt_move (.pointer (some ⟨g, 0, none⟩)) rfl rfl rfl)
    · exact ob_un (fe_lift HXF HE (fun _ _ => trivial) fun _ HLO => rt_pick (m := 3) 4 (by omega) (by simp <;> omega) (by omega) (by omega) rfl rfl rfl rfl)
    · refine ob_un (ob_val fun n a w' hn hI hat => by
      obtain ⟨k, hk, _, _⟩ : ∃ x : Int, a.tmps[74]?.getD undef = .int .i64 x ∧ 0 ≤ x ∧ x < ((3 : Nat) : Int) := fs_in (s := 74) (j := 5) (fe_at hat) rfl rfl rfl
      refine ⟨.bool (decide (0 < k)), w', ?_, ⟨⟨_, rfl⟩, trivial⟩, ⟨hI.1.same, hI.2⟩, fun _ _ _ h => h⟩
      clear hI hat
      simp only [execOp, eval_tmp, hk]
      go_simp)
    · refine ob_un (ob_skip fun n a w' hn hI hat => by
      have h0 : a.tmps[2]?.getD undef = .pointer (some ⟨w.heap.size, 0, none⟩) := at_out hat rfl rfl
      have h1 : a.tmps[69]?.getD undef = .agg #[.int .i64 pc, .slice a1 4 c1, .slice a2 m c2, .int .i64 ht] := fs_in (s := 69) (j := 0) (fe_at hat) rfl rfl rfl
      have q1 := HG.out
      have q2 := HGL.out
      have q3 := HLT.out
      have q4 := HTB.out
      obtain ⟨hx, ⟨k0, ks, ka, kt, xs, ys, ko, kp⟩, kh⟩ := hI
      have hst := st_vm ks pc ht a1 a2 4 c1 m c2
      obtain ⟨_, _, _, _, _, _, _, _, kv⟩ := ks
      have hch : Chg (fun j => j = w.heap.size) w' (vm4 w' w.heap.size (.int .i64 pc) (.slice a1 4 c1) (.slice a2 m c2) (.int .i64 ht)) := vbchg4 (.int .i64 pc) (.slice a1 4 c1) (.slice a2 m c2) (.int .i64 ht) rfl
      have hvb' : VB (vm4 w' w.heap.size (.int .i64 pc) (.slice a1 4 c1) (.slice a2 m c2) (.int .i64 ht)) _ _ := vbset4 (.int .i64 pc) (.slice a1 4 c1) (.slice a2 m c2) (.int .i64 ht) kv
      have hc1 := (vb4 kv).2.1
      have d0 := (vb4 hvb').1
      have hex : Ext g w.heap.size w' _ := ext_of (ys := [pc]) hch hc1 (fun n e => by cases e) ⟨fun i hi => by match i, hi with | 0, _ => exact d0, hvb'.2.1, hvb'.2.2⟩
      obtain ⟨_, _, _, _, _, _, _, _, ka⟩ := ka
      refine ⟨_, ?_, ⟨trivial, hvb'⟩, ⟨((((hx.setV _ (by omega) (by omega) (by omega)).setV _ (by omega) (by omega) (by omega)).setV _ (by omega) (by omega) (by omega)).setV _ (by omega) (by omega) (by omega)).same, ⟨Nat.lt_of_lt_of_le k0 hch.size, ⟨_, _, _, _, _, _, _, _, hvb'⟩, ⟨_, _, _, _, _, _, _, _, ka.chg hch (by first | omega | (dsimp only; omega))⟩, kt.chg hch (by first | omega | (dsimp only; omega)), xs, ys, ko.chg hch (fun j hj => by have := (ko.blk j hj).1; first | omega | (dsimp only; omega)), kp.chg hch (fun j hj => by have := (kp.blk j hj).1; first | omega | (dsimp only; omega))⟩, ah_chg kh hch (by first | omega | (dsimp only; omega)) (fun j hj => by first | omega | (dsimp only; omega))⟩, fun j x hj hu => ⟨fs_mono hex j x hj hu.1, te_chg hu.2 hch (by omega) (fun e => absurd e hj) (fun e => by omega)⟩⟩
      simp only [execOp, eval_tmp, h0, h1]
      simp only [Sem.run_bind, hst]
      rfl)
    · refine ob_un (ob_skip fun n a w' hn hI hat => by
      have h0 : a.tmps[3]?.getD undef = .pointer (some ⟨w.heap.size + 1, 0, none⟩) := at_out hat rfl rfl
      obtain ⟨k, y, t, h, f, aa, c, bs, h1, h2, h3⟩ := fe_in hat (s := 70) (j := 1) rfl rfl
      have q1 := HG.out
      have q2 := HGL.out
      have q3 := HLT.out
      have q4 := HTB.out
      obtain ⟨hx, ⟨k0, ks, ka, kt, xs, ys, ko, kp⟩, kh⟩ := hI
      obtain ⟨_, _, _, _, _, _, _, _, kv⟩ := ka
      have hst := st_ask kv k y t h f aa bs.length c
      have hch : Chg (fun j => j = w.heap.size + 1) w' _ := vbchg6V (w := w') (b := w.heap.size + 1) (.int .i64 k) (.int .i64 y) (.slice aa bs.length c) (.int .i64 t) (.int .i64 h) (.int .i64 f) rfl
      have hvb' := vbset6V (.int .i64 k) (.int .i64 y) (.slice aa bs.length c) (.int .i64 t) (.int .i64 h) (.int .i64 f) kv
      have hc2 := (vb6V kv).2.2.1
      obtain ⟨d0, d1, _⟩ := vb6V hvb'
      have hex : Ext g w.heap.size w' _ := ext_of (ys := [k, y]) hch hc2 (fun n e => by cases e) ⟨fun i hi => by match i, hi with | 0, _ => exact d0 | 1, _ => exact d1, hvb'.2.1, hvb'.2.2⟩
      obtain ⟨_, _, _, _, _, _, _, _, ks⟩ := ks
      refine ⟨_, ?_, ⟨trivial, k, y, t, h, f, aa, c, bs, hvb', own_chgV h2 hch (fun j hj => by first | omega | (dsimp only; omega)), h3⟩, ⟨((((((hx.setV _ (by omega) (by omega) (by omega)).setV _ (by omega) (by omega) (by omega)).setV _ (by omega) (by omega) (by omega)).setV _ (by omega) (by omega) (by omega)).setV _ (by omega) (by omega) (by omega)).setV _ (by omega) (by omega) (by omega)).same, ⟨Nat.lt_of_lt_of_le k0 hch.size, ⟨_, _, _, _, _, _, _, _, ks.chg hch (by first | omega | (dsimp only; omega))⟩, ⟨_, _, _, _, _, _, _, _, hvb'⟩, kt.chg hch (by first | omega | (dsimp only; omega)), xs, ys, ko.chg hch (fun j hj => by have := (ko.blk j hj).1; first | omega | (dsimp only; omega)), kp.chg hch (fun j hj => by have := (kp.blk j hj).1; first | omega | (dsimp only; omega))⟩, ah_chg kh hch (by first | omega | (dsimp only; omega)) (fun j hj => by first | omega | (dsimp only; omega))⟩, fun j x hj hu => ⟨fs_mono hex j x hj hu.1, te_chg hu.2 hch (by omega) (fun e => by omega) (fun e => absurd e hj)⟩⟩
      simp only [execOp, eval_tmp, h0, h1]
      simp only [Sem.run_bind, hst]
      rfl)
    · refine ob_un (ob_val fun n a w' hn hI hat => by
      have hf := fe_in hat (s := 72) (j := 3) rfl rfl
      exact ⟨a.tmps[72]?.getD undef, w', by simp only [execOp, eval_tmp]; rfl, ⟨trivial, hf⟩, ⟨hI.1.same, hI.2⟩, fun _ _ _ h => h⟩)
    · refine ob_un (ob_val fun n a w' hn hI hat => by
      have hf := fs_in (t := .bool) (s := 75) (j := 6) (fe_at hat) rfl rfl rfl
      exact ⟨a.tmps[75]?.getD undef, w', by simp only [execOp, eval_tmp]; rfl, ⟨hf, trivial⟩, ⟨hI.1.same, hI.2⟩, fun _ _ _ h => h⟩)
    intro u17 w17 hI hF
    obtain ⟨f0, f1, f2, f3, f4, f5, f6, f7, f8, f9, f10, -⟩ := hF
    obtain ⟨yes, hyes⟩ : ∃ b, u17 5 = .bool b := f10.1
    obtain ⟨got, og, hgl⟩ := f9.2
    obtain ⟨k, y, t, h, f, aa, c, bs, hvb, ho, hbl⟩ := f8.2
    have hvm := f7.2
    obtain ⟨xs', ys', k4, k5⟩ := hI.2.1.2.2.2.2
    have BW := hid (hI.1.below (by have := HG.out; omega))
    have HM := hid hvm
    have HA := hid hvb
    have P1 := hid (k4.rd (by omega))
    have P2 := hid (k5.rd (by omega))
    have P3 := hid (ho.rd (by omega))
    have P4 := hid (og.rd (by omega))
    clear f0 f1 f2 f3 f4 f5 f6 f7 f8 f9 f10 hI hvm hvb ho og k4 k5
    simp only [outTmps, List.setIfInBounds_toArray, List.set_cons_zero, List.set_cons_succ, hyes]
    go_wp2_with fail
    refine bodyPost_ret (res_drawVm _ rfl rfl HM.out HA.out rfl rfl) rfl ?_
    exact ⟨pc, ht, _, _, k, y, t, h, f, aa, c, _, yes, m, xs', ys', bs, got, rfl, P1.out, P2.out, hm9, P3.out, hbl, P4.out, hgl, BW.out⟩
  have d5 : (x == 5) = false := by simpa using e5
  have DF : Hid (DV w w g w.heap.size 340 100 [] (fun wx => GX w.heap.size T L pc ht (.slice a1 4 c1) (.slice a2 m c2) m wx ∧ AskHas B T wx) 0 _) := hid ⟨DD.out.1.re (K' := 100) (by omega), DD.out.2.1, (show AskHas B T _ from by obtain ⟨k, y, t, h, f, hv⟩ := DD.out.2.2; exact ⟨k, y, t, h, f, none, 0, [], hv, own_nil _, by simp⟩)⟩
  have HXF : Stands g (fun wx => GX w.heap.size T L pc ht (.slice a1 4 c1) (.slice a2 m c2) m wx ∧ AskHas B T wx) := fun w' w'' hb hh => ⟨HX _ _ hb hh.1, ah_stands (by have := HGL.out; have := HLT.out; have := HTB.out; omega) (by have := HGL.out; have := HLT.out; omega) _ _ hb hh.2⟩
  have HE : EStands g (TE w.heap.size T pc ht (.slice a1 4 c1) (.slice a2 m c2)) := te_stands HG.out (by have := HGL.out; have := HLT.out; omega)
  clear DD
  go_upto_region 17 with fail
  refine region_facts (FE g w.heap.size [.is (.agg #[.int .i64 pc, .slice a1 4 c1, .slice a2 m c2, .int .i64 ht]), .any, .is (.pointer (some ⟨g, 0, none⟩)), .any, .is (.pointer (some ⟨g, 0, none⟩)), .rng 3, .bool, .any, .any, .any, .bool] (TE w.heap.size T pc ht (.slice a1 4 c1) (.slice a2 m c2))) (DV w w g w.heap.size 340 100 [] (fun wx => GX w.heap.size T L pc ht (.slice a1 4 c1) (.slice a2 m c2) m wx ∧ AskHas B T wx)) (by kernel_rfl) (by kernel_rfl) (DF.out.drew HXF) ⟨?_, ?_, ?_, ?_, ?_, ?_, ?_, ?_, ?_, ?_, ?_, trivial⟩ ?_
  · refine ob_un (ob_val fun n a w' hn hI hat => by
      have e : a.tmps[7]?.getD undef = .pointer (some ⟨T, 0, none⟩) := at_out hat rfl rfl
      have hld := ld_vm hI.2.1.2.2.2.1
      refine ⟨.agg #[.int .i64 pc, .slice a1 4 c1, .slice a2 m c2, .int .i64 ht], w', ?_, ⟨rfl, trivial⟩, ⟨hI.1.same, hI.2⟩, fun _ _ _ h => h⟩
      simp only [execOp, eval_tmp, e]
      simp only [Sem.run_bind, hld]
      rfl)
  · refine ob_un (ob_val fun n a w' hn hI hat => by
      have e : a.tmps[8]?.getD undef = .pointer (some ⟨B, 0, none⟩) := at_out hat rfl rfl
      obtain ⟨k, y, t, h, f, aa, c, bs, hvb, ho, hl⟩ := hI.2.2
      have hld := ld_ask hvb
      refine ⟨.agg #[.int .i64 k, .int .i64 y, .slice aa bs.length c, .int .i64 t, .int .i64 h, .int .i64 f], w', ?_, ⟨trivial, k, y, t, h, f, aa, c, bs, rfl, ho, hl⟩, ⟨hI.1.same, hI.2⟩, fun _ _ _ h => h⟩
      simp only [execOp, eval_tmp, e]
      simp only [Sem.run_bind, hld]
      rfl)
  · exact ob_un (fe_lift HXF HE (fun _ _ => trivial) fun _ HLO => rt_move (.pointer (some ⟨g, 0, none⟩)) rfl rfl rfl)
  · refine ob_un (ob_call (fun xs w => by go_simp) fun n a w' hn hI hat => by
      have h : _ = _ := is_in 2 (fe_at hat) rfl rfl rfl
      have e : (#[Operand.tmp 71].map a.eval) = #[.pointer (some ⟨g, 0, none⟩)] := by simp [eval_tmp, h]
      rw [e]
      obtain ⟨⟨q, h1, h2⟩, h3, h4, h5, h6, h7⟩ := hI.1
      have hn2 : n < 11 := hn
      have hb : (n + 1) * 100 ≤ 11 * 100 := Nat.mul_le_mul_right _ (by omega)
      rw [Nat.add_mul] at hb
      have hTw := hI.2.1.1
      refine (drawMessage_any w w' g q h2 (by omega)).mono ?_
      rintro e w3 ⟨uu, xs, rfl, hxs, ho, ⟨q', hq', rd⟩, gr⟩
      have hx := fun lo => ext_grown (lo := lo) gr
      exact ⟨_, rfl, ⟨trivial, xs, ho.low (by omega), hxs⟩, ⟨⟨⟨q', by rw [Nat.add_mul]; omega, rd⟩, gtrans h3 gr, h4, by have := gr.size; omega, (fun x hx' => by cases hx'), h7⟩, HXF _ _ gr hI.2⟩, fun j x hj hu => ⟨fs_mono (hx _) j x hj hu.1, HE j x _ _ gr hu.2⟩⟩)
  · exact ob_un (fe_lift HXF HE (fun _ _ => trivial) fun _ HLO => rt_move (.pointer (some ⟨g, 0, none⟩)) rfl rfl rfl)
  · exact ob_un (fe_lift HXF HE (fun _ _ => trivial) fun _ HLO => rt_pick (m := 3) 4 (by omega) (by simp <;> omega) (by omega) (by omega) rfl rfl rfl rfl)
  · refine ob_un (ob_val fun n a w' hn hI hat => by
      obtain ⟨k, hk, _, _⟩ : ∃ x : Int, a.tmps[74]?.getD undef = .int .i64 x ∧ 0 ≤ x ∧ x < ((3 : Nat) : Int) := fs_in (s := 74) (j := 5) (fe_at hat) rfl rfl rfl
      refine ⟨.bool (decide (0 < k)), w', ?_, ⟨⟨_, rfl⟩, trivial⟩, ⟨hI.1.same, hI.2⟩, fun _ _ _ h => h⟩
      clear hI hat
      simp only [execOp, eval_tmp, hk]
      go_simp)
  · refine ob_un (ob_skip fun n a w' hn hI hat => by
      have h0 : a.tmps[2]?.getD undef = .pointer (some ⟨w.heap.size, 0, none⟩) := at_out hat rfl rfl
      have h1 : a.tmps[69]?.getD undef = .agg #[.int .i64 pc, .slice a1 4 c1, .slice a2 m c2, .int .i64 ht] := fs_in (s := 69) (j := 0) (fe_at hat) rfl rfl rfl
      have q1 := HG.out
      have q2 := HGL.out
      have q3 := HLT.out
      have q4 := HTB.out
      obtain ⟨hx, ⟨k0, ks, ka, kt, xs, ys, ko, kp⟩, kh⟩ := hI
      have hst := st_vm ks pc ht a1 a2 4 c1 m c2
      obtain ⟨_, _, _, _, _, _, _, _, kv⟩ := ks
      have hch : Chg (fun j => j = w.heap.size) w' (vm4 w' w.heap.size (.int .i64 pc) (.slice a1 4 c1) (.slice a2 m c2) (.int .i64 ht)) := vbchg4 (.int .i64 pc) (.slice a1 4 c1) (.slice a2 m c2) (.int .i64 ht) rfl
      have hvb' : VB (vm4 w' w.heap.size (.int .i64 pc) (.slice a1 4 c1) (.slice a2 m c2) (.int .i64 ht)) _ _ := vbset4 (.int .i64 pc) (.slice a1 4 c1) (.slice a2 m c2) (.int .i64 ht) kv
      have hc1 := (vb4 kv).2.1
      have d0 := (vb4 hvb').1
      have hex : Ext g w.heap.size w' _ := ext_of (ys := [pc]) hch hc1 (fun n e => by cases e) ⟨fun i hi => by match i, hi with | 0, _ => exact d0, hvb'.2.1, hvb'.2.2⟩
      obtain ⟨_, _, _, _, _, _, _, _, ka⟩ := ka
      refine ⟨_, ?_, ⟨trivial, hvb'⟩, ⟨((((hx.setV _ (by omega) (by omega) (by omega)).setV _ (by omega) (by omega) (by omega)).setV _ (by omega) (by omega) (by omega)).setV _ (by omega) (by omega) (by omega)).same, ⟨Nat.lt_of_lt_of_le k0 hch.size, ⟨_, _, _, _, _, _, _, _, hvb'⟩, ⟨_, _, _, _, _, _, _, _, ka.chg hch (by first | omega | (dsimp only; omega))⟩, kt.chg hch (by first | omega | (dsimp only; omega)), xs, ys, ko.chg hch (fun j hj => by have := (ko.blk j hj).1; first | omega | (dsimp only; omega)), kp.chg hch (fun j hj => by have := (kp.blk j hj).1; first | omega | (dsimp only; omega))⟩, ah_chg kh hch (by first | omega | (dsimp only; omega)) (fun j hj => by first | omega | (dsimp only; omega))⟩, fun j x hj hu => ⟨fs_mono hex j x hj hu.1, te_chg hu.2 hch (by omega) (fun e => absurd e hj) (fun e => by omega)⟩⟩
      simp only [execOp, eval_tmp, h0, h1]
      simp only [Sem.run_bind, hst]
      rfl)
  · refine ob_un (ob_skip fun n a w' hn hI hat => by
      have h0 : a.tmps[3]?.getD undef = .pointer (some ⟨w.heap.size + 1, 0, none⟩) := at_out hat rfl rfl
      obtain ⟨k, y, t, h, f, aa, c, bs, h1, h2, h3⟩ := fe_in hat (s := 70) (j := 1) rfl rfl
      have q1 := HG.out
      have q2 := HGL.out
      have q3 := HLT.out
      have q4 := HTB.out
      obtain ⟨hx, ⟨k0, ks, ka, kt, xs, ys, ko, kp⟩, kh⟩ := hI
      obtain ⟨_, _, _, _, _, _, _, _, kv⟩ := ka
      have hst := st_ask kv k y t h f aa bs.length c
      have hch : Chg (fun j => j = w.heap.size + 1) w' _ := vbchg6V (w := w') (b := w.heap.size + 1) (.int .i64 k) (.int .i64 y) (.slice aa bs.length c) (.int .i64 t) (.int .i64 h) (.int .i64 f) rfl
      have hvb' := vbset6V (.int .i64 k) (.int .i64 y) (.slice aa bs.length c) (.int .i64 t) (.int .i64 h) (.int .i64 f) kv
      have hc2 := (vb6V kv).2.2.1
      obtain ⟨d0, d1, _⟩ := vb6V hvb'
      have hex : Ext g w.heap.size w' _ := ext_of (ys := [k, y]) hch hc2 (fun n e => by cases e) ⟨fun i hi => by match i, hi with | 0, _ => exact d0 | 1, _ => exact d1, hvb'.2.1, hvb'.2.2⟩
      obtain ⟨_, _, _, _, _, _, _, _, ks⟩ := ks
      refine ⟨_, ?_, ⟨trivial, k, y, t, h, f, aa, c, bs, hvb', own_chgV h2 hch (fun j hj => by first | omega | (dsimp only; omega)), h3⟩, ⟨((((((hx.setV _ (by omega) (by omega) (by omega)).setV _ (by omega) (by omega) (by omega)).setV _ (by omega) (by omega) (by omega)).setV _ (by omega) (by omega) (by omega)).setV _ (by omega) (by omega) (by omega)).setV _ (by omega) (by omega) (by omega)).same, ⟨Nat.lt_of_lt_of_le k0 hch.size, ⟨_, _, _, _, _, _, _, _, ks.chg hch (by first | omega | (dsimp only; omega))⟩, ⟨_, _, _, _, _, _, _, _, hvb'⟩, kt.chg hch (by first | omega | (dsimp only; omega)), xs, ys, ko.chg hch (fun j hj => by have := (ko.blk j hj).1; first | omega | (dsimp only; omega)), kp.chg hch (fun j hj => by have := (kp.blk j hj).1; first | omega | (dsimp only; omega))⟩, ah_chg kh hch (by first | omega | (dsimp only; omega)) (fun j hj => by first | omega | (dsimp only; omega))⟩, fun j x hj hu => ⟨fs_mono hex j x hj hu.1, te_chg hu.2 hch (by omega) (fun e => by omega) (fun e => absurd e hj)⟩⟩
      simp only [execOp, eval_tmp, h0, h1]
      simp only [Sem.run_bind, hst]
      rfl)
  · refine ob_un (ob_val fun n a w' hn hI hat => by
      have hf := fe_in hat (s := 72) (j := 3) rfl rfl
      exact ⟨a.tmps[72]?.getD undef, w', by simp only [execOp, eval_tmp]; rfl, ⟨trivial, hf⟩, ⟨hI.1.same, hI.2⟩, fun _ _ _ h => h⟩)
  · refine ob_un (ob_val fun n a w' hn hI hat => by
      have hf := fs_in (t := .bool) (s := 75) (j := 6) (fe_at hat) rfl rfl rfl
      exact ⟨a.tmps[75]?.getD undef, w', by simp only [execOp, eval_tmp]; rfl, ⟨hf, trivial⟩, ⟨hI.1.same, hI.2⟩, fun _ _ _ h => h⟩)
  intro u17 w17 hI hF
  obtain ⟨f0, f1, f2, f3, f4, f5, f6, f7, f8, f9, f10, -⟩ := hF
  obtain ⟨yes, hyes⟩ : ∃ b, u17 5 = .bool b := f10.1
  obtain ⟨got, og, hgl⟩ := f9.2
  obtain ⟨k, y, t, h, f, aa, c, bs, hvb, ho, hbl⟩ := f8.2
  have hvm := f7.2
  obtain ⟨xs', ys', k4, k5⟩ := hI.2.1.2.2.2.2
  have BW := hid (hI.1.below (by have := HG.out; omega))
  have HM := hid hvm
  have HA := hid hvb
  have P1 := hid (k4.rd (by omega))
  have P2 := hid (k5.rd (by omega))
  have P3 := hid (ho.rd (by omega))
  have P4 := hid (og.rd (by omega))
  clear f0 f1 f2 f3 f4 f5 f6 f7 f8 f9 f10 hI hvm hvb ho og k4 k5
  simp only [outTmps, List.setIfInBounds_toArray, List.set_cons_zero, List.set_cons_succ, hyes]
  go_wp2_with fail
  refine bodyPost_ret (res_drawVm _ rfl rfl HM.out HA.out rfl rfl) rfl ?_
  exact ⟨pc, ht, _, _, k, y, t, h, f, aa, c, _, yes, m, xs', ys', bs, got, rfl, P1.out, P2.out, hm9, P3.out, hbl, P4.out, hgl, BW.out⟩
end Go.Proofs.Ytbpomeegpkdekaa
