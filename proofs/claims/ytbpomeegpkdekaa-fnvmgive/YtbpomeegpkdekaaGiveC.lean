/- VmGive: the contract of the program's. Conditions: the lists read. -/
import Derived.Test.YtbpomeegpkdekaaGiveTried
import Derived.Test.YtbpomeegpkdekaaGiveAsk
import Derived.Test.YtbpomeegpkdekaaVmState
import Derived.Test.YtbpomeegpkdekaaStepO
import Derived.Test.YtbpomeegpkdekaaAggInts
namespace Go.Proofs.Ytbpomeegpkdekaa
open Go.ChangeShapes Go.WideShapes Go.ChangeAt Go.RowKit Go.Joins Go.Deep
set_option linter.unusedVariables false
set_option linter.unusedSimpArgs false
set_option maxRecDepth 4000
def z6 : List Value := [.int .i64 0, .int .i64 0, .slice none 0 0, .int .i64 0, .int .i64 0, .int .i64 0]
theorem one_bvs {pc ht : Int} {rs ms : List Int} {t6 : List Value} (h : OneC t6) : OneC (bvs pc ht rs ms t6) := by
  intro v hv
  unfold bvs at hv
  rcases List.mem_cons.1 hv with rfl | hv
  · rfl
  rcases List.mem_append.1 hv with hv | hv
  · obtain ⟨x, _, rfl⟩ := List.mem_map.1 hv; rfl
  rcases List.mem_append.1 hv with hv | hv
  · obtain ⟨x, _, rfl⟩ := List.mem_map.1 hv; rfl
  rcases List.mem_cons.1 hv with rfl | hv
  · rfl
  · exact h v hv
theorem one_z6 : OneC z6 := by
  intro v hv
  simp [z6] at hv
  rcases hv with rfl | rfl | rfl | rfl | rfl | rfl <;> rfl
/-- a machine's state from its body, whatever it asks -/
theorem state_bod (pc ht k y t g f : Int) (ba : Option Addr) (bl bc : Nat) (rs ms : List Int) (w : World) (hr : rs.length = 4) (hm : ms.length = 8) :
    Calls Try.prog 53 #[.agg (bvs pc ht rs ms [.int .i64 k, .int .i64 y, .slice ba bl bc, .int .i64 t, .int .i64 g, .int .i64 f]).toArray] w fun e w' => ∃ u v, e = .returned (.agg #[.int .i64 pc, u, v, .int .i64 ht]) ∧ OwnI 3 1 w' w.heap.size u 4 rs ∧ OwnI 3 1 w' w.heap.size v 8 ms ∧ (∀ j, u.ownBlock = some j → v.ownBlock ≠ some j) ∧ Below w.heap.size w w' := by
  obtain ⟨r0, r1, r2, r3, rfl⟩ := list_4 hr
  obtain ⟨m0, m1, m2, m3, m4, m5, m6, m7, rfl⟩ := list_8 hm
  exact state_any pc r0 r1 r2 r3 m0 m1 m2 m3 m4 m5 m6 m7 ht k y t g f ba bl bc w
theorem open_bod (pc ht : Int) (rs ms : List Int) (u v : Value) (w : World) (hr : rs.length = 4) (hm : ms.length = 8) (hu : RdI 1 w u 4 rs) (hv : RdI 1 w v 8 ms) :
    Calls Try.prog 49 #[.agg #[.int .i64 pc, u, v, .int .i64 ht]] w fun e w' => e = .returned (.agg (bvs pc ht rs ms z6).toArray) ∧ Below w.heap.size w w' := by
  obtain ⟨r0, r1, r2, r3, rfl⟩ := list_4 hr
  obtain ⟨m0, m1, m2, m3, m4, m5, m6, m7, rfl⟩ := list_8 hm
  exact vmOpen_any pc ht r0 r1 r2 r3 m0 m1 m2 m3 m4 m5 m6 m7 u v w hu hv
theorem ld_state {w : World} {b : Nat} {x y z t : Value} (h : VB w b [x, y, z, t]) : (Instr.loadAt 25 (.pointer (some ⟨b, 0, none⟩))).run Try.prog w = .ok (.agg #[x, y, z, t]) w := by
  obtain ⟨c0, c1, c2, c3⟩ := vb4 h
  clear h
  go_simp
def st4 (w : World) (b : Nat) (v0 v1 v2 v3 : Value) : World := (((w.setCell ⟨b, 0, none⟩ v0).setCell ⟨b, 1, none⟩ v1).setCell ⟨b, 2, none⟩ v2).setCell ⟨b, 3, none⟩ v3
theorem st_state {w : World} {b : Nat} {x y z t : Value} (h : VB w b [x, y, z, t]) (pc ht : Int) (a1 a2 : Option Addr) (n1 c1 n2 c2 : Nat) : (Instr.storeAt 25 (.pointer (some ⟨b, 0, none⟩)) (.agg #[.int .i64 pc, .slice a1 n1 c1, .slice a2 n2 c2, .int .i64 ht])).run Try.prog w = .ok () (st4 w b (.int .i64 pc) (.slice a1 n1 c1) (.slice a2 n2 c2) (.int .i64 ht)) := by
  obtain ⟨x0, x1, x2, x3⟩ := vb4 h
  have ff := h.2.1
  unfold st4
  clear h
  go_simp
theorem resGive {W : World} {b : Nat} {x0 x1 x2 x3 : Value} (tmps : Array Value) (ht : tmps[8]?.getD undef = .pointer (some ⟨b, 0, none⟩)) (h : VB W b [x0, x1, x2, x3]) :
    (results Try.f21 tmps).run Try.prog W = .ok (.agg #[x0, x1, x2, x3]) W := by
  obtain ⟨h0, h1, h2, h3⟩ := vb4 h
  simp [results, Try.results21, go_sem, ht, h0, h1, h2, h3]
/-- whether a machine, an ask and an answer may be -/
def gvB (pc : Int) (nr : Nat) (xs : List Int) (nm : Nat) (ys : List Int) (ht k y : Int) (bl : Nat) (t g f : Int) (got : List Int) : Bool := vmB pc nr xs nm ys ht && (askB k y bl t g f && decide (got.length ≤ 8))
/-- what a sending machine is told -/
def snI (yes : Bool) : Int := if yes then 1 else 0
/-- the registers, the memory, how it stands, behind an answer -/
def gvR (ht k : Int) (p g f : Nat) (yes : Bool) (got rs : List Int) : List Int :=
  if ht = 0 then (if k = 1 then rs.set g (snI yes) else if k = 2 then (if yes then (if p + got.length ≤ 8 then rs.set g ((got.length : Int) + 1) else rs) else rs.set g 0) else if k = 3 then (rs.set g (rdF yes got)).set f (rdG yes got) else rs) else rs
def gvM (ht k : Int) (p : Nat) (yes : Bool) (got ms : List Int) : List Int := if ht = 0 ∧ k = 2 ∧ yes = true ∧ p + got.length ≤ 8 then layI ms p got got.length else ms
def gvH (ht k : Int) (p : Nat) (yes : Bool) (got : List Int) : Int := if ht = 0 ∧ k = 2 ∧ yes = true ∧ ¬ p + got.length ≤ 8 then 2 else ht
def GivePost (ok : Bool) (pc H : Int) (R M : List Int) (w : World) (e : Ending) (w' : World) : Prop :=
  ∃ u v, e = .returned (.agg #[.int .i64 (if ok then pc else 0), u, v, .int .i64 (if ok then H else 0)]) ∧ OwnI 3 1 w' w.heap.size u (if ok then 4 else 0) (if ok then R else []) ∧ OwnI 3 1 w' w.heap.size v (if ok then 8 else 0) (if ok then M else []) ∧ (∀ j, u.ownBlock = some j → v.ownBlock ≠ some j) ∧ Below w.heap.size w w'
/-- the end: the state into the result's block -/
theorem give_end {w w7 w8 : World} {B : Nat} {pc H : Int} {R M : List Int} {u v : Value} {x0 x1 x2 x3 : Value} (hB : w.heap.size ≤ B) (hP : Below w.heap.size w w7) (hR : VB w7 B [x0, x1, x2, x3]) (o1 : OwnI 3 1 w8 w7.heap.size u 4 R) (o2 : OwnI 3 1 w8 w7.heap.size v 8 M) (ap : ∀ j, u.ownBlock = some j → v.ownBlock ≠ some j) (b8 : Below w7.heap.size w7 w8) :
    VB (st4 w8 B (.int .i64 pc) u v (.int .i64 H)) B [.int .i64 pc, u, v, .int .i64 H] ∧ OwnI 3 1 (st4 w8 B (.int .i64 pc) u v (.int .i64 H)) w.heap.size u 4 R ∧ OwnI 3 1 (st4 w8 B (.int .i64 pc) u v (.int .i64 H)) w.heap.size v 8 M ∧ Below w.heap.size w (st4 w8 B (.int .i64 pc) u v (.int .i64 H)) := by
  have hR8 := hR.keep b8
  have hC : Chg (fun j => j = B) w8 (st4 w8 B (.int .i64 pc) u v (.int .i64 H)) := vbchg4 (.int .i64 pc) u v (.int .i64 H) rfl
  have hl := hR.2.2
  have hs := hP.size
  refine ⟨vbset4 _ _ _ _ hR8, (o1.chg hC (fun j hj e => by have e : j = B := e; have := (o1.blk j hj).1; omega)).low hs, (o2.chg hC (fun j hj e => by have e : j = B := e; have := (o2.blk j hj).1; omega)).low hs, below_chg (hP.trans (b8.mono hs)) hC ((hP.trans (b8.mono hs)).size) (fun j hj => by have hj : j = B := hj; omega)⟩
theorem clos_no (k y pc ht : Int) (p g f : Nat) (ba : Option Addr) (bs : List Int) (bc : Nat) (ga : Option Addr) (gc : Nat) (got rs ms : List Int) (t6 : List Value) (b B : Nat) (w : World) (hg : g < 4) (hf : f < 4) (hb : Bod w b pc ht rs ms t6) (vq : VB w B [.int .i64 k, .int .i64 y, .slice ba bs.length bc, .int .i64 (p : Int), .int .i64 (g : Int), .int .i64 (f : Int)]) (vg : VB w (B + 1) [.slice ga got.length gc]) (vy : VB w (B + 2) [.bool false]) :
    Calls Try.prog 67 #[.pointer (some ⟨b, 0, none⟩), .pointer (some ⟨B, 0, none⟩), .pointer (some ⟨B + 1, 0, none⟩), .pointer (some ⟨B + 2, 0, none⟩)] w fun e w' => e = .returned (.tuple #[]) ∧ Bod w' b pc ht (rs.set g 0) ms t6 ∧ Chg (fun j => j = b) w w' := by
  have HT := hid (took_no k y pc ht p g f ba bs.length bc (.slice ga got.length gc) rs ms t6 b w hg hf hb)
  have c0 := vq.1 0 (by simp)
  have c1 := vq.1 1 (by simp)
  have c2 := vq.1 2 (by simp)
  have c3 := vq.1 3 (by simp)
  have c4 := vq.1 4 (by simp)
  have c5 := vq.1 5 (by simp)
  simp only [List.getD_cons_zero, List.getD_cons_succ] at c0 c1 c2 c3 c4 c5
  have d0 := vb1 vg
  have e0 := vb1 vy
  clear vq vg vy hb
  go_enter Try.func67, Try.ntmps67
  go_wp2_with fail
  refine HT.out.mono ?_
  clear c0 c1 c2 c3 c4 c5 d0 e0
  rintro e w' ⟨rfl, h1, h2⟩
  have H1 := hid h1
  have H2 := hid h2
  clear h1 h2
  go_wp2
  go_end0
  exact ⟨rfl, H1.out, H2.out⟩
theorem clos_yes (k y pc ht : Int) (p g f : Nat) (ba : Option Addr) (bs : List Int) (bc : Nat) (ga : Option Addr) (gc : Nat) (got rs ms : List Int) (t6 : List Value) (b B : Nat) (w : World) (hgv : Rd w (.slice ga got.length gc) got) (hgo : 0 < got.length → ∀ j, (Value.slice ga got.length gc).ownBlock = some j → ¬ j = b) (hl : p + got.length ≤ 8) (hg : g < 4) (hf : f < 4) (hb : Bod w b pc ht rs ms t6) (vq : VB w B [.int .i64 k, .int .i64 y, .slice ba bs.length bc, .int .i64 (p : Int), .int .i64 (g : Int), .int .i64 (f : Int)]) (vg : VB w (B + 1) [.slice ga got.length gc]) (vy : VB w (B + 2) [.bool true]) :
    Calls Try.prog 67 #[.pointer (some ⟨b, 0, none⟩), .pointer (some ⟨B, 0, none⟩), .pointer (some ⟨B + 1, 0, none⟩), .pointer (some ⟨B + 2, 0, none⟩)] w fun e w' => e = .returned (.tuple #[]) ∧ Bod w' b pc ht (rs.set g ((got.length : Int) + 1)) (layI ms p got got.length) t6 ∧ Chg (fun j => j = b) w w' := by
  have HT := hid (took_yes k y pc ht p g f ba bs.length bc (.slice ga got.length gc) got rs ms t6 b w hgv hgo hl hg hf hb)
  have c0 := vq.1 0 (by simp)
  have c1 := vq.1 1 (by simp)
  have c2 := vq.1 2 (by simp)
  have c3 := vq.1 3 (by simp)
  have c4 := vq.1 4 (by simp)
  have c5 := vq.1 5 (by simp)
  simp only [List.getD_cons_zero, List.getD_cons_succ] at c0 c1 c2 c3 c4 c5
  have d0 := vb1 vg
  have e0 := vb1 vy
  clear vq vg vy hb
  go_enter Try.func67, Try.ntmps67
  go_wp2_with fail
  refine HT.out.mono ?_
  clear c0 c1 c2 c3 c4 c5 d0 e0
  rintro e w' ⟨rfl, h1, h2⟩
  have H1 := hid h1
  have H2 := hid h2
  clear h1 h2
  go_wp2
  go_end0
  exact ⟨rfl, H1.out, H2.out⟩
theorem clos_fall (k y pc ht : Int) (p g f : Nat) (ba : Option Addr) (bs : List Int) (bc : Nat) (ga : Option Addr) (gc : Nat) (got rs ms : List Int) (t6 : List Value) (b B : Nat) (w : World) (hgv : Rd w (.slice ga got.length gc) got) (hp : p ≤ 255) (hl : 8 < p + got.length) (hg : g < 4) (hf : f < 4) (hb : Bod w b pc ht rs ms t6) (vq : VB w B [.int .i64 k, .int .i64 y, .slice ba bs.length bc, .int .i64 (p : Int), .int .i64 (g : Int), .int .i64 (f : Int)]) (vg : VB w (B + 1) [.slice ga got.length gc]) (vy : VB w (B + 2) [.bool true]) :
    Calls Try.prog 67 #[.pointer (some ⟨b, 0, none⟩), .pointer (some ⟨B, 0, none⟩), .pointer (some ⟨B + 1, 0, none⟩), .pointer (some ⟨B + 2, 0, none⟩)] w fun e w' => e = .panicked [{ v := fellV, recovered := false }] ∧ Bod w' b pc ht rs ms t6 ∧ Chg (fun j => j = b) w w' := by
  have HT := hid (took_fall k y pc ht p g f ba bs.length bc (.slice ga got.length gc) got rs ms t6 b w hgv hp hl hg hf hb)
  have c0 := vq.1 0 (by simp)
  have c1 := vq.1 1 (by simp)
  have c2 := vq.1 2 (by simp)
  have c3 := vq.1 3 (by simp)
  have c4 := vq.1 4 (by simp)
  have c5 := vq.1 5 (by simp)
  simp only [List.getD_cons_zero, List.getD_cons_succ] at c0 c1 c2 c3 c4 c5
  have d0 := vb1 vg
  have e0 := vb1 vy
  clear vq vg vy hb
  go_enter Try.func67, Try.ntmps67
  go_wp2_with fail
  refine HT.out.mono ?_
  clear c0 c1 c2 c3 c4 c5 d0 e0
  rintro e w' ⟨rfl, h1, h2⟩
  have H1 := hid h1
  have H2 := hid h2
  clear h1 h2
  go_wp2_with fail
  exact ⟨rfl, rfl, H1.out, H2.out⟩
theorem vb6 {w : World} {b : Nat} {y0 y1 y2 y3 y4 y5 : Value} (h : VB w b [y0, y1, y2, y3, y4, y5]) : w.cell? ⟨b, 0, none⟩ = some y0 ∧ w.cell? ⟨b, 1, none⟩ = some y1 ∧ w.cell? ⟨b, 2, none⟩ = some y2 ∧ w.cell? ⟨b, 3, none⟩ = some y3 ∧ w.cell? ⟨b, 4, none⟩ = some y4 ∧ w.cell? ⟨b, 5, none⟩ = some y5 :=
  ⟨h.1 0 (by simp), h.1 1 (by simp), h.1 2 (by simp), h.1 3 (by simp), h.1 4 (by simp), h.1 5 (by simp)⟩
set_option maxHeartbeats 16000000 in
theorem give_bad (pc ht k y t g f : Int) (ba : Option Addr) (bc : Nat) (bs : List Int) (gv : Value) (got : List Int) (yes : Bool) (u v : Value) (nr nm : Nat) (xs ys : List Int) (w : World) (hu : RdI 1 w u nr xs) (hv : RdI 1 w v nm ys) (hb : Rd w (.slice ba bs.length bc) bs) (hgv : Rd w gv got) (hok : gvB pc nr xs nm ys ht k y bs.length t g f got = false) :
    Calls Try.prog 21 #[.agg #[.int .i64 pc, u, v, .int .i64 ht], .agg #[.int .i64 k, .int .i64 y, .slice ba bs.length bc, .int .i64 t, .int .i64 g, .int .i64 f], gv, .bool yes] w fun e w' => GivePost (gvB pc nr xs nm ys ht k y bs.length t g f got) pc (gvH ht k t.toNat yes got) (gvR ht k t.toNat g.toNat f.toNat yes got xs) (gvM ht k t.toNat yes got ys) w e w' := by
  have HOK := hid hok
  have RU := hid hu
  have RV := hid hv
  have RB := hid hb
  have RG := hid hgv
  obtain ⟨_, _, a1, c1, rfl, _⟩ := hu
  obtain ⟨_, _, a2, c2, rfl, _⟩ := hv
  obtain ⟨_, _, ga, gc, rfl, _⟩ := hgv
  clear hb
  cases c0 : (vmB pc nr xs nm ys ht)
  · have HC0 := hid c0
    clear c0 hok
    go_enter Try.func21, Try.ntmps21
    go_wp2_with fail
    have PP := hid (Below.refl w.heap.size w)
    have A := below_alloc1 w (.cells #[.int .i64 pc, .slice a1 nr c1, .slice a2 nm c2, .int .i64 ht] 25)
    replace RU := hid (RU.out.keep A)
    replace RV := hid (RV.out.keep A)
    replace RB := hid (RB.out.keep A)
    replace RG := hid (RG.out.keep A)
    replace PP := hid (PP.out.trans (A.mono PP.out.size))
    have VS := hid (vb_new w [.int .i64 pc, .slice a1 nr c1, .slice a2 nm c2, .int .i64 ht] 25)
    have z0 : (w.alloc (.cells #[.int .i64 pc, .slice a1 nr c1, .slice a2 nm c2, .int .i64 ht] 25)).heap.size = w.heap.size + 1 := by simp
    obtain ⟨U0, hU0⟩ : ∃ X, w.alloc (.cells #[.int .i64 pc, .slice a1 nr c1, .slice a2 nm c2, .int .i64 ht] 25) = X := ⟨_, rfl⟩
    rw [hU0] at z0 RU RV RB RG VS PP
    try rw [hU0]
    clear A hU0
    have A := below_alloc1 U0 (.cells #[.int .i64 k, .int .i64 y, .slice ba bs.length bc, .int .i64 t, .int .i64 g, .int .i64 f] 30)
    replace RU := hid (RU.out.keep A)
    replace RV := hid (RV.out.keep A)
    replace RB := hid (RB.out.keep A)
    replace RG := hid (RG.out.keep A)
    replace VS := hid (VS.out.keep A)
    replace PP := hid (PP.out.trans (A.mono PP.out.size))
    have VQ := hid (vb_new U0 [.int .i64 k, .int .i64 y, .slice ba bs.length bc, .int .i64 t, .int .i64 g, .int .i64 f] 30)
    have z1 : (U0.alloc (.cells #[.int .i64 k, .int .i64 y, .slice ba bs.length bc, .int .i64 t, .int .i64 g, .int .i64 f] 30)).heap.size = w.heap.size + 2 := by simp [z0]
    rw [z0] at VQ
    obtain ⟨U1, hU1⟩ : ∃ X, U0.alloc (.cells #[.int .i64 k, .int .i64 y, .slice ba bs.length bc, .int .i64 t, .int .i64 g, .int .i64 f] 30) = X := ⟨_, rfl⟩
    rw [hU1] at z1 RU RV RB RG VS VQ PP
    try rw [hU1]
    clear A hU1
    have A := below_alloc1 U1 (.cells #[.slice ga got.length gc] 22)
    replace RU := hid (RU.out.keep A)
    replace RV := hid (RV.out.keep A)
    replace RB := hid (RB.out.keep A)
    replace RG := hid (RG.out.keep A)
    replace VS := hid (VS.out.keep A)
    replace VQ := hid (VQ.out.keep A)
    replace PP := hid (PP.out.trans (A.mono PP.out.size))
    have VG := hid (vb_new U1 [.slice ga got.length gc] 22)
    have z2 : (U1.alloc (.cells #[.slice ga got.length gc] 22)).heap.size = w.heap.size + 3 := by simp [z1]
    rw [z1] at VG
    obtain ⟨U2, hU2⟩ : ∃ X, U1.alloc (.cells #[.slice ga got.length gc] 22) = X := ⟨_, rfl⟩
    rw [hU2] at z2 RU RV RB RG VS VQ VG PP
    try rw [hU2]
    clear A hU2
    have A := below_alloc1 U2 (.cells #[.bool yes] 4)
    replace RU := hid (RU.out.keep A)
    replace RV := hid (RV.out.keep A)
    replace RB := hid (RB.out.keep A)
    replace RG := hid (RG.out.keep A)
    replace VS := hid (VS.out.keep A)
    replace VQ := hid (VQ.out.keep A)
    replace VG := hid (VG.out.keep A)
    replace PP := hid (PP.out.trans (A.mono PP.out.size))
    have VY := hid (vb_new U2 [.bool yes] 4)
    have z3 : (U2.alloc (.cells #[.bool yes] 4)).heap.size = w.heap.size + 4 := by simp [z2]
    rw [z2] at VY
    obtain ⟨U3, hU3⟩ : ∃ X, U2.alloc (.cells #[.bool yes] 4) = X := ⟨_, rfl⟩
    rw [hU3] at z3 RU RV RB RG VS VQ VG VY PP
    try rw [hU3]
    clear A hU3
    have A := below_alloc1 U3 (.cells #[.int .i64 0, .slice none 0 0, .slice none 0 0, .int .i64 0] 25)
    replace RU := hid (RU.out.keep A)
    replace RV := hid (RV.out.keep A)
    replace RB := hid (RB.out.keep A)
    replace RG := hid (RG.out.keep A)
    replace VS := hid (VS.out.keep A)
    replace VQ := hid (VQ.out.keep A)
    replace VG := hid (VG.out.keep A)
    replace VY := hid (VY.out.keep A)
    replace PP := hid (PP.out.trans (A.mono PP.out.size))
    have VR := hid (vb_new U3 [.int .i64 0, .slice none 0 0, .slice none 0 0, .int .i64 0] 25)
    have z4 : (U3.alloc (.cells #[.int .i64 0, .slice none 0 0, .slice none 0 0, .int .i64 0] 25)).heap.size = w.heap.size + 5 := by simp [z3]
    rw [z3] at VR
    obtain ⟨U4, hU4⟩ : ∃ X, U3.alloc (.cells #[.int .i64 0, .slice none 0 0, .slice none 0 0, .int .i64 0] 25) = X := ⟨_, rfl⟩
    rw [hU4] at z4 RU RV RB RG VS VQ VG VY VR PP
    try rw [hU4]
    clear A hU4
    obtain ⟨s0, s1, s2, s3⟩ := vb4 VS.out
    refine (vmOk_any pc ht _ _ nr nm xs ys _ RU.out RV.out).mono ?_
    rw [HC0.out]
    rintro e w1 ⟨rfl, bb⟩
    clear s0 s1 s2 s3
    replace RU := hid (RU.out.keep bb)
    replace RV := hid (RV.out.keep bb)
    replace RB := hid (RB.out.keep bb)
    replace RG := hid (RG.out.keep bb)
    replace VS := hid (VS.out.keep bb)
    replace VQ := hid (VQ.out.keep bb)
    replace VG := hid (VG.out.keep bb)
    replace VY := hid (VY.out.keep bb)
    replace VR := hid (VR.out.keep bb)
    replace PP := hid (PP.out.trans (bb.mono PP.out.size))
    clear bb
    obtain ⟨r0, r1, r2, r3⟩ := vb4 VR.out
    have fr := VR.out.2.1
    have HP := PP.out
    go_wp2_with fail
    have FV := vbset4 (.int .i64 0) (.slice none 0 0) (.slice none 0 0) (.int .i64 0) VR.out
    have FC := vbchg4 (S := fun j => j = w.heap.size + 4) (.int .i64 0) (.slice none 0 0) (.slice none 0 0) (.int .i64 0) (w := w1) (b := w.heap.size + 4) rfl
    refine bodyPost_ret (resGive _ rfl FV) rfl ?_
    rw [HOK.out]
    exact ⟨_, _, rfl, ownI_nil _, ownI_nil _, (fun j hj => by simp [Value.ownBlock] at hj), below_chg HP FC HP.size (fun j hj => by have hj : j = w.heap.size + 4 := hj; omega)⟩
  cases c1 : (askB k y bs.length t g f)
  · have HC0 := hid c0
    have HC1 := hid c1
    clear c0 c1 hok
    go_enter Try.func21, Try.ntmps21
    go_wp2_with fail
    have PP := hid (Below.refl w.heap.size w)
    have A := below_alloc1 w (.cells #[.int .i64 pc, .slice a1 nr c1, .slice a2 nm c2, .int .i64 ht] 25)
    replace RU := hid (RU.out.keep A)
    replace RV := hid (RV.out.keep A)
    replace RB := hid (RB.out.keep A)
    replace RG := hid (RG.out.keep A)
    replace PP := hid (PP.out.trans (A.mono PP.out.size))
    have VS := hid (vb_new w [.int .i64 pc, .slice a1 nr c1, .slice a2 nm c2, .int .i64 ht] 25)
    have z0 : (w.alloc (.cells #[.int .i64 pc, .slice a1 nr c1, .slice a2 nm c2, .int .i64 ht] 25)).heap.size = w.heap.size + 1 := by simp
    obtain ⟨U0, hU0⟩ : ∃ X, w.alloc (.cells #[.int .i64 pc, .slice a1 nr c1, .slice a2 nm c2, .int .i64 ht] 25) = X := ⟨_, rfl⟩
    rw [hU0] at z0 RU RV RB RG VS PP
    try rw [hU0]
    clear A hU0
    have A := below_alloc1 U0 (.cells #[.int .i64 k, .int .i64 y, .slice ba bs.length bc, .int .i64 t, .int .i64 g, .int .i64 f] 30)
    replace RU := hid (RU.out.keep A)
    replace RV := hid (RV.out.keep A)
    replace RB := hid (RB.out.keep A)
    replace RG := hid (RG.out.keep A)
    replace VS := hid (VS.out.keep A)
    replace PP := hid (PP.out.trans (A.mono PP.out.size))
    have VQ := hid (vb_new U0 [.int .i64 k, .int .i64 y, .slice ba bs.length bc, .int .i64 t, .int .i64 g, .int .i64 f] 30)
    have z1 : (U0.alloc (.cells #[.int .i64 k, .int .i64 y, .slice ba bs.length bc, .int .i64 t, .int .i64 g, .int .i64 f] 30)).heap.size = w.heap.size + 2 := by simp [z0]
    rw [z0] at VQ
    obtain ⟨U1, hU1⟩ : ∃ X, U0.alloc (.cells #[.int .i64 k, .int .i64 y, .slice ba bs.length bc, .int .i64 t, .int .i64 g, .int .i64 f] 30) = X := ⟨_, rfl⟩
    rw [hU1] at z1 RU RV RB RG VS VQ PP
    try rw [hU1]
    clear A hU1
    have A := below_alloc1 U1 (.cells #[.slice ga got.length gc] 22)
    replace RU := hid (RU.out.keep A)
    replace RV := hid (RV.out.keep A)
    replace RB := hid (RB.out.keep A)
    replace RG := hid (RG.out.keep A)
    replace VS := hid (VS.out.keep A)
    replace VQ := hid (VQ.out.keep A)
    replace PP := hid (PP.out.trans (A.mono PP.out.size))
    have VG := hid (vb_new U1 [.slice ga got.length gc] 22)
    have z2 : (U1.alloc (.cells #[.slice ga got.length gc] 22)).heap.size = w.heap.size + 3 := by simp [z1]
    rw [z1] at VG
    obtain ⟨U2, hU2⟩ : ∃ X, U1.alloc (.cells #[.slice ga got.length gc] 22) = X := ⟨_, rfl⟩
    rw [hU2] at z2 RU RV RB RG VS VQ VG PP
    try rw [hU2]
    clear A hU2
    have A := below_alloc1 U2 (.cells #[.bool yes] 4)
    replace RU := hid (RU.out.keep A)
    replace RV := hid (RV.out.keep A)
    replace RB := hid (RB.out.keep A)
    replace RG := hid (RG.out.keep A)
    replace VS := hid (VS.out.keep A)
    replace VQ := hid (VQ.out.keep A)
    replace VG := hid (VG.out.keep A)
    replace PP := hid (PP.out.trans (A.mono PP.out.size))
    have VY := hid (vb_new U2 [.bool yes] 4)
    have z3 : (U2.alloc (.cells #[.bool yes] 4)).heap.size = w.heap.size + 4 := by simp [z2]
    rw [z2] at VY
    obtain ⟨U3, hU3⟩ : ∃ X, U2.alloc (.cells #[.bool yes] 4) = X := ⟨_, rfl⟩
    rw [hU3] at z3 RU RV RB RG VS VQ VG VY PP
    try rw [hU3]
    clear A hU3
    have A := below_alloc1 U3 (.cells #[.int .i64 0, .slice none 0 0, .slice none 0 0, .int .i64 0] 25)
    replace RU := hid (RU.out.keep A)
    replace RV := hid (RV.out.keep A)
    replace RB := hid (RB.out.keep A)
    replace RG := hid (RG.out.keep A)
    replace VS := hid (VS.out.keep A)
    replace VQ := hid (VQ.out.keep A)
    replace VG := hid (VG.out.keep A)
    replace VY := hid (VY.out.keep A)
    replace PP := hid (PP.out.trans (A.mono PP.out.size))
    have VR := hid (vb_new U3 [.int .i64 0, .slice none 0 0, .slice none 0 0, .int .i64 0] 25)
    have z4 : (U3.alloc (.cells #[.int .i64 0, .slice none 0 0, .slice none 0 0, .int .i64 0] 25)).heap.size = w.heap.size + 5 := by simp [z3]
    rw [z3] at VR
    obtain ⟨U4, hU4⟩ : ∃ X, U3.alloc (.cells #[.int .i64 0, .slice none 0 0, .slice none 0 0, .int .i64 0] 25) = X := ⟨_, rfl⟩
    rw [hU4] at z4 RU RV RB RG VS VQ VG VY VR PP
    try rw [hU4]
    clear A hU4
    obtain ⟨s0, s1, s2, s3⟩ := vb4 VS.out
    refine (vmOk_any pc ht _ _ nr nm xs ys _ RU.out RV.out).mono ?_
    rw [HC0.out]
    rintro e w1 ⟨rfl, bb⟩
    clear s0 s1 s2 s3
    replace RU := hid (RU.out.keep bb)
    replace RV := hid (RV.out.keep bb)
    replace RB := hid (RB.out.keep bb)
    replace RG := hid (RG.out.keep bb)
    replace VS := hid (VS.out.keep bb)
    replace VQ := hid (VQ.out.keep bb)
    replace VG := hid (VG.out.keep bb)
    replace VY := hid (VY.out.keep bb)
    replace VR := hid (VR.out.keep bb)
    replace PP := hid (PP.out.trans (bb.mono PP.out.size))
    clear bb
    obtain ⟨q0, q1, q2, q3, q4, q5⟩ := vb6 VQ.out
    go_wp2_with fail
    clear q0 q1 q2 q3 q4 q5
    refine (may_any k y t g f ba bc bs _ RB.out).mono ?_
    rw [HC1.out]
    rintro e w2 ⟨rfl, bb⟩
    replace RU := hid (RU.out.keep bb)
    replace RV := hid (RV.out.keep bb)
    replace RB := hid (RB.out.keep bb)
    replace RG := hid (RG.out.keep bb)
    replace VS := hid (VS.out.keep bb)
    replace VQ := hid (VQ.out.keep bb)
    replace VG := hid (VG.out.keep bb)
    replace VY := hid (VY.out.keep bb)
    replace VR := hid (VR.out.keep bb)
    replace PP := hid (PP.out.trans (bb.mono PP.out.size))
    clear bb
    obtain ⟨r0, r1, r2, r3⟩ := vb4 VR.out
    have fr := VR.out.2.1
    have HP := PP.out
    go_wp2_with fail
    have FV := vbset4 (.int .i64 0) (.slice none 0 0) (.slice none 0 0) (.int .i64 0) VR.out
    have FC := vbchg4 (S := fun j => j = w.heap.size + 4) (.int .i64 0) (.slice none 0 0) (.slice none 0 0) (.int .i64 0) (w := w2) (b := w.heap.size + 4) rfl
    refine bodyPost_ret (resGive _ rfl FV) rfl ?_
    rw [HOK.out]
    exact ⟨_, _, rfl, ownI_nil _, ownI_nil _, (fun j hj => by simp [Value.ownBlock] at hj), below_chg HP FC HP.size (fun j hj => by have hj : j = w.heap.size + 4 := hj; omega)⟩
  cases c2 : (decide (got.length ≤ 8))
  · have HC0 := hid c0
    have HC1 := hid c1
    have HC2 := hid c2
    clear c0 c1 c2 hok
    go_enter Try.func21, Try.ntmps21
    go_wp2_with fail
    have PP := hid (Below.refl w.heap.size w)
    have A := below_alloc1 w (.cells #[.int .i64 pc, .slice a1 nr c1, .slice a2 nm c2, .int .i64 ht] 25)
    replace RU := hid (RU.out.keep A)
    replace RV := hid (RV.out.keep A)
    replace RB := hid (RB.out.keep A)
    replace RG := hid (RG.out.keep A)
    replace PP := hid (PP.out.trans (A.mono PP.out.size))
    have VS := hid (vb_new w [.int .i64 pc, .slice a1 nr c1, .slice a2 nm c2, .int .i64 ht] 25)
    have z0 : (w.alloc (.cells #[.int .i64 pc, .slice a1 nr c1, .slice a2 nm c2, .int .i64 ht] 25)).heap.size = w.heap.size + 1 := by simp
    obtain ⟨U0, hU0⟩ : ∃ X, w.alloc (.cells #[.int .i64 pc, .slice a1 nr c1, .slice a2 nm c2, .int .i64 ht] 25) = X := ⟨_, rfl⟩
    rw [hU0] at z0 RU RV RB RG VS PP
    try rw [hU0]
    clear A hU0
    have A := below_alloc1 U0 (.cells #[.int .i64 k, .int .i64 y, .slice ba bs.length bc, .int .i64 t, .int .i64 g, .int .i64 f] 30)
    replace RU := hid (RU.out.keep A)
    replace RV := hid (RV.out.keep A)
    replace RB := hid (RB.out.keep A)
    replace RG := hid (RG.out.keep A)
    replace VS := hid (VS.out.keep A)
    replace PP := hid (PP.out.trans (A.mono PP.out.size))
    have VQ := hid (vb_new U0 [.int .i64 k, .int .i64 y, .slice ba bs.length bc, .int .i64 t, .int .i64 g, .int .i64 f] 30)
    have z1 : (U0.alloc (.cells #[.int .i64 k, .int .i64 y, .slice ba bs.length bc, .int .i64 t, .int .i64 g, .int .i64 f] 30)).heap.size = w.heap.size + 2 := by simp [z0]
    rw [z0] at VQ
    obtain ⟨U1, hU1⟩ : ∃ X, U0.alloc (.cells #[.int .i64 k, .int .i64 y, .slice ba bs.length bc, .int .i64 t, .int .i64 g, .int .i64 f] 30) = X := ⟨_, rfl⟩
    rw [hU1] at z1 RU RV RB RG VS VQ PP
    try rw [hU1]
    clear A hU1
    have A := below_alloc1 U1 (.cells #[.slice ga got.length gc] 22)
    replace RU := hid (RU.out.keep A)
    replace RV := hid (RV.out.keep A)
    replace RB := hid (RB.out.keep A)
    replace RG := hid (RG.out.keep A)
    replace VS := hid (VS.out.keep A)
    replace VQ := hid (VQ.out.keep A)
    replace PP := hid (PP.out.trans (A.mono PP.out.size))
    have VG := hid (vb_new U1 [.slice ga got.length gc] 22)
    have z2 : (U1.alloc (.cells #[.slice ga got.length gc] 22)).heap.size = w.heap.size + 3 := by simp [z1]
    rw [z1] at VG
    obtain ⟨U2, hU2⟩ : ∃ X, U1.alloc (.cells #[.slice ga got.length gc] 22) = X := ⟨_, rfl⟩
    rw [hU2] at z2 RU RV RB RG VS VQ VG PP
    try rw [hU2]
    clear A hU2
    have A := below_alloc1 U2 (.cells #[.bool yes] 4)
    replace RU := hid (RU.out.keep A)
    replace RV := hid (RV.out.keep A)
    replace RB := hid (RB.out.keep A)
    replace RG := hid (RG.out.keep A)
    replace VS := hid (VS.out.keep A)
    replace VQ := hid (VQ.out.keep A)
    replace VG := hid (VG.out.keep A)
    replace PP := hid (PP.out.trans (A.mono PP.out.size))
    have VY := hid (vb_new U2 [.bool yes] 4)
    have z3 : (U2.alloc (.cells #[.bool yes] 4)).heap.size = w.heap.size + 4 := by simp [z2]
    rw [z2] at VY
    obtain ⟨U3, hU3⟩ : ∃ X, U2.alloc (.cells #[.bool yes] 4) = X := ⟨_, rfl⟩
    rw [hU3] at z3 RU RV RB RG VS VQ VG VY PP
    try rw [hU3]
    clear A hU3
    have A := below_alloc1 U3 (.cells #[.int .i64 0, .slice none 0 0, .slice none 0 0, .int .i64 0] 25)
    replace RU := hid (RU.out.keep A)
    replace RV := hid (RV.out.keep A)
    replace RB := hid (RB.out.keep A)
    replace RG := hid (RG.out.keep A)
    replace VS := hid (VS.out.keep A)
    replace VQ := hid (VQ.out.keep A)
    replace VG := hid (VG.out.keep A)
    replace VY := hid (VY.out.keep A)
    replace PP := hid (PP.out.trans (A.mono PP.out.size))
    have VR := hid (vb_new U3 [.int .i64 0, .slice none 0 0, .slice none 0 0, .int .i64 0] 25)
    have z4 : (U3.alloc (.cells #[.int .i64 0, .slice none 0 0, .slice none 0 0, .int .i64 0] 25)).heap.size = w.heap.size + 5 := by simp [z3]
    rw [z3] at VR
    obtain ⟨U4, hU4⟩ : ∃ X, U3.alloc (.cells #[.int .i64 0, .slice none 0 0, .slice none 0 0, .int .i64 0] 25) = X := ⟨_, rfl⟩
    rw [hU4] at z4 RU RV RB RG VS VQ VG VY VR PP
    try rw [hU4]
    clear A hU4
    obtain ⟨s0, s1, s2, s3⟩ := vb4 VS.out
    refine (vmOk_any pc ht _ _ nr nm xs ys _ RU.out RV.out).mono ?_
    rw [HC0.out]
    rintro e w1 ⟨rfl, bb⟩
    clear s0 s1 s2 s3
    replace RU := hid (RU.out.keep bb)
    replace RV := hid (RV.out.keep bb)
    replace RB := hid (RB.out.keep bb)
    replace RG := hid (RG.out.keep bb)
    replace VS := hid (VS.out.keep bb)
    replace VQ := hid (VQ.out.keep bb)
    replace VG := hid (VG.out.keep bb)
    replace VY := hid (VY.out.keep bb)
    replace VR := hid (VR.out.keep bb)
    replace PP := hid (PP.out.trans (bb.mono PP.out.size))
    clear bb
    obtain ⟨q0, q1, q2, q3, q4, q5⟩ := vb6 VQ.out
    go_wp2_with fail
    clear q0 q1 q2 q3 q4 q5
    refine (may_any k y t g f ba bc bs _ RB.out).mono ?_
    rw [HC1.out]
    rintro e w2 ⟨rfl, bb⟩
    replace RU := hid (RU.out.keep bb)
    replace RV := hid (RV.out.keep bb)
    replace RB := hid (RB.out.keep bb)
    replace RG := hid (RG.out.keep bb)
    replace VS := hid (VS.out.keep bb)
    replace VQ := hid (VQ.out.keep bb)
    replace VG := hid (VG.out.keep bb)
    replace VY := hid (VY.out.keep bb)
    replace VR := hid (VR.out.keep bb)
    replace PP := hid (PP.out.trans (bb.mono PP.out.size))
    clear bb
    have g0 := vb1 VG.out
    go_wp2_with fail
    clear g0
    refine (implMsg_any _ got _ RG.out).mono ?_
    rw [HC2.out]
    rintro e w3 ⟨rfl, rfl⟩
    obtain ⟨r0, r1, r2, r3⟩ := vb4 VR.out
    have fr := VR.out.2.1
    have HP := PP.out
    go_wp2_with fail
    have FV := vbset4 (.int .i64 0) (.slice none 0 0) (.slice none 0 0) (.int .i64 0) VR.out
    have FC := vbchg4 (S := fun j => j = w.heap.size + 4) (.int .i64 0) (.slice none 0 0) (.slice none 0 0) (.int .i64 0) (w := w3) (b := w.heap.size + 4) rfl
    refine bodyPost_ret (resGive _ rfl FV) rfl ?_
    rw [HOK.out]
    exact ⟨_, _, rfl, ownI_nil _, ownI_nil _, (fun j hj => by simp [Value.ownBlock] at hj), below_chg HP FC HP.size (fun j hj => by have hj : j = w.heap.size + 4 := hj; omega)⟩
  simp [gvB, c0, c1] at hok
  simp at c2
  omega
theorem rd_chg {w w' : World} {a : Option Addr} {n c : Nat} {xs : List Int} {S : Nat → Prop} (h : Rd w (.slice a n c) xs) (hg : Chg S w w') (hs : 0 < xs.length → ∀ j, (Value.slice a n c).ownBlock = some j → ¬ S j) : Rd w' (.slice a n c) xs := by
  obtain ⟨h1, h2, a', c', hv, h3⟩ := h
  refine ⟨h1, h2, a', c', hv, ?_⟩
  rcases h3 with h3 | ⟨b, off, ha, hc⟩
  · exact .inl h3
  · refine .inr ⟨b, off, ha, fun i hi => hg.cell (p := ⟨b, off + i, none⟩) (fun e => ?_) (hc i hi)⟩
    subst ha
    simp only [Value.slice.injEq] at hv
    exact hs (by omega) b (by rw [hv.1]; rfl) e
theorem rd_old {w : World} {a : Option Addr} {n c : Nat} {xs : List Int} (h : Rd w (.slice a n c) xs) : 0 < xs.length → ∀ j, (Value.slice a n c).ownBlock = some j → j < w.heap.size := by
  intro hl j hj
  obtain ⟨h1, h2, a', c', hv, h3⟩ := h
  rcases h3 with h3 | ⟨b, off, ha, hc⟩
  · rw [h3] at hl; simp at hl
  · subst ha
    simp only [Value.slice.injEq] at hv
    rw [hv.1] at hj
    simp [Value.ownBlock] at hj
    subst hj
    exact World.block_lt_of_cell? w _ (hc 0 hl)
set_option maxHeartbeats 16000000 in
theorem give_halted (pc ht k y : Int) (p g f : Nat) (ba : Option Addr) (bc : Nat) (bs : List Int) (gv : Value) (got : List Int) (yes : Bool) (u v : Value) (xs ys : List Int) (w : World) (hu : RdI 1 w u 4 xs) (hv : RdI 1 w v 8 ys) (hb : Rd w (.slice ba bs.length bc) bs) (hgv : Rd w gv got) (hg : g < 4) (hf : f < 4) (hp : p ≤ 255) (hh : ¬ ht = 0) (hok : gvB pc 4 xs 8 ys ht k y bs.length (p : Int) (g : Int) (f : Int) got = true) :
    Calls Try.prog 21 #[.agg #[.int .i64 pc, u, v, .int .i64 ht], .agg #[.int .i64 k, .int .i64 y, .slice ba bs.length bc, .int .i64 (p : Int), .int .i64 (g : Int), .int .i64 (f : Int)], gv, .bool yes] w fun e w' => GivePost true pc (ht) (xs) (ys) w e w' := by
  simp only [gvB, Bool.and_eq_true] at hok
  have HC0 := hid hok.1
  have HC1 := hid hok.2.1
  have HC2 := hid hok.2.2
  have LR := hid (show xs.length = 4 from by have := hu.1; omega)
  have LM := hid (show ys.length = 8 from by have := hv.1; omega)
  have RU := hid hu
  have RV := hid hv
  have RB := hid hb
  have RG := hid hgv
  obtain ⟨_, _, a1, c1, rfl, _⟩ := hu
  obtain ⟨_, _, a2, c2, rfl, _⟩ := hv
  obtain ⟨_, _, ga, gc, rfl, _⟩ := hgv
  have HGO := hid (rd_old RG.out)
  clear hb hok
  have dh : (ht != 0) = true := by simpa using hh
  go_enter Try.func21, Try.ntmps21
  go_wp2_with fail
  have PP := hid (Below.refl w.heap.size w)
  have A := below_alloc1 w (.cells #[.int .i64 pc, .slice a1 4 c1, .slice a2 8 c2, .int .i64 ht] 25)
  replace RU := hid (RU.out.keep A)
  replace RV := hid (RV.out.keep A)
  replace RB := hid (RB.out.keep A)
  replace RG := hid (RG.out.keep A)
  replace PP := hid (PP.out.trans (A.mono PP.out.size))
  have VS := hid (vb_new w [.int .i64 pc, .slice a1 4 c1, .slice a2 8 c2, .int .i64 ht] 25)
  have z0 : (w.alloc (.cells #[.int .i64 pc, .slice a1 4 c1, .slice a2 8 c2, .int .i64 ht] 25)).heap.size = w.heap.size + 1 := by simp
  obtain ⟨U0, hU0⟩ : ∃ X, w.alloc (.cells #[.int .i64 pc, .slice a1 4 c1, .slice a2 8 c2, .int .i64 ht] 25) = X := ⟨_, rfl⟩
  rw [hU0] at z0 RU RV RB RG VS PP
  try rw [hU0]
  clear A hU0
  have A := below_alloc1 U0 (.cells #[.int .i64 k, .int .i64 y, .slice ba bs.length bc, .int .i64 (p : Int), .int .i64 (g : Int), .int .i64 (f : Int)] 30)
  replace RU := hid (RU.out.keep A)
  replace RV := hid (RV.out.keep A)
  replace RB := hid (RB.out.keep A)
  replace RG := hid (RG.out.keep A)
  replace VS := hid (VS.out.keep A)
  replace PP := hid (PP.out.trans (A.mono PP.out.size))
  have VQ := hid (vb_new U0 [.int .i64 k, .int .i64 y, .slice ba bs.length bc, .int .i64 (p : Int), .int .i64 (g : Int), .int .i64 (f : Int)] 30)
  have z1 : (U0.alloc (.cells #[.int .i64 k, .int .i64 y, .slice ba bs.length bc, .int .i64 (p : Int), .int .i64 (g : Int), .int .i64 (f : Int)] 30)).heap.size = w.heap.size + 2 := by simp [z0]
  rw [z0] at VQ
  obtain ⟨U1, hU1⟩ : ∃ X, U0.alloc (.cells #[.int .i64 k, .int .i64 y, .slice ba bs.length bc, .int .i64 (p : Int), .int .i64 (g : Int), .int .i64 (f : Int)] 30) = X := ⟨_, rfl⟩
  rw [hU1] at z1 RU RV RB RG VS VQ PP
  try rw [hU1]
  clear A hU1
  have A := below_alloc1 U1 (.cells #[.slice ga got.length gc] 22)
  replace RU := hid (RU.out.keep A)
  replace RV := hid (RV.out.keep A)
  replace RB := hid (RB.out.keep A)
  replace RG := hid (RG.out.keep A)
  replace VS := hid (VS.out.keep A)
  replace VQ := hid (VQ.out.keep A)
  replace PP := hid (PP.out.trans (A.mono PP.out.size))
  have VG := hid (vb_new U1 [.slice ga got.length gc] 22)
  have z2 : (U1.alloc (.cells #[.slice ga got.length gc] 22)).heap.size = w.heap.size + 3 := by simp [z1]
  rw [z1] at VG
  obtain ⟨U2, hU2⟩ : ∃ X, U1.alloc (.cells #[.slice ga got.length gc] 22) = X := ⟨_, rfl⟩
  rw [hU2] at z2 RU RV RB RG VS VQ VG PP
  try rw [hU2]
  clear A hU2
  have A := below_alloc1 U2 (.cells #[.bool yes] 4)
  replace RU := hid (RU.out.keep A)
  replace RV := hid (RV.out.keep A)
  replace RB := hid (RB.out.keep A)
  replace RG := hid (RG.out.keep A)
  replace VS := hid (VS.out.keep A)
  replace VQ := hid (VQ.out.keep A)
  replace VG := hid (VG.out.keep A)
  replace PP := hid (PP.out.trans (A.mono PP.out.size))
  have VY := hid (vb_new U2 [.bool yes] 4)
  have z3 : (U2.alloc (.cells #[.bool yes] 4)).heap.size = w.heap.size + 4 := by simp [z2]
  rw [z2] at VY
  obtain ⟨U3, hU3⟩ : ∃ X, U2.alloc (.cells #[.bool yes] 4) = X := ⟨_, rfl⟩
  rw [hU3] at z3 RU RV RB RG VS VQ VG VY PP
  try rw [hU3]
  clear A hU3
  have A := below_alloc1 U3 (.cells #[.int .i64 0, .slice none 0 0, .slice none 0 0, .int .i64 0] 25)
  replace RU := hid (RU.out.keep A)
  replace RV := hid (RV.out.keep A)
  replace RB := hid (RB.out.keep A)
  replace RG := hid (RG.out.keep A)
  replace VS := hid (VS.out.keep A)
  replace VQ := hid (VQ.out.keep A)
  replace VG := hid (VG.out.keep A)
  replace VY := hid (VY.out.keep A)
  replace PP := hid (PP.out.trans (A.mono PP.out.size))
  have VR := hid (vb_new U3 [.int .i64 0, .slice none 0 0, .slice none 0 0, .int .i64 0] 25)
  have z4 : (U3.alloc (.cells #[.int .i64 0, .slice none 0 0, .slice none 0 0, .int .i64 0] 25)).heap.size = w.heap.size + 5 := by simp [z3]
  rw [z3] at VR
  obtain ⟨U4, hU4⟩ : ∃ X, U3.alloc (.cells #[.int .i64 0, .slice none 0 0, .slice none 0 0, .int .i64 0] 25) = X := ⟨_, rfl⟩
  rw [hU4] at z4 RU RV RB RG VS VQ VG VY VR PP
  try rw [hU4]
  clear A hU4
  obtain ⟨s0, s1, s2, s3⟩ := vb4 VS.out
  refine (vmOk_any pc ht _ _ 4 8 xs ys _ RU.out RV.out).mono ?_
  rw [HC0.out]
  rintro e w1 ⟨rfl, bb⟩
  clear s0 s1 s2 s3
  replace RU := hid (RU.out.keep bb)
  replace RV := hid (RV.out.keep bb)
  replace RB := hid (RB.out.keep bb)
  replace RG := hid (RG.out.keep bb)
  replace VS := hid (VS.out.keep bb)
  replace VQ := hid (VQ.out.keep bb)
  replace VG := hid (VG.out.keep bb)
  replace VY := hid (VY.out.keep bb)
  replace VR := hid (VR.out.keep bb)
  replace PP := hid (PP.out.trans (bb.mono PP.out.size))
  clear bb
  obtain ⟨q0, q1, q2, q3, q4, q5⟩ := vb6 VQ.out
  go_wp2_with fail
  clear q0 q1 q2 q3 q4 q5
  refine (may_any k y (p : Int) (g : Int) (f : Int) ba bc bs _ RB.out).mono ?_
  rw [HC1.out]
  rintro e w2 ⟨rfl, bb⟩
  replace RU := hid (RU.out.keep bb)
  replace RV := hid (RV.out.keep bb)
  replace RB := hid (RB.out.keep bb)
  replace RG := hid (RG.out.keep bb)
  replace VS := hid (VS.out.keep bb)
  replace VQ := hid (VQ.out.keep bb)
  replace VG := hid (VG.out.keep bb)
  replace VY := hid (VY.out.keep bb)
  replace VR := hid (VR.out.keep bb)
  replace PP := hid (PP.out.trans (bb.mono PP.out.size))
  clear bb
  have g0 := vb1 VG.out
  go_wp2_with fail
  clear g0
  refine (implMsg_any _ got _ RG.out).mono ?_
  rw [HC2.out]
  rintro e w3 ⟨rfl, rfl⟩
  have HLB := hid (show ∀ w4 : World, Below w3.heap.size w3 w4 → w.heap.size + 4 < w4.heap.size from fun w4 h => Nat.lt_of_lt_of_le VR.out.2.2 h.size)
  go_upto_region 3 with fail
  refine wp_region ?_
  change wpOps _ _ _ [0, 1, 2, 3] _ _
  refine ops_load rfl rfl (ld_state VS.out) ?_
  refine ops_call rfl (fun xs w => by go_simp) rfl ?_
  refine (open_bod pc ht xs ys _ _ _ LR.out LM.out RU.out RV.out).mono ?_
  rintro e w4 ⟨rfl, bb⟩
  replace HLB := hid (HLB.out w4 bb)
  replace RU := hid (RU.out.keep bb)
  replace RV := hid (RV.out.keep bb)
  replace RB := hid (RB.out.keep bb)
  replace RG := hid (RG.out.keep bb)
  replace VS := hid (VS.out.keep bb)
  replace VQ := hid (VQ.out.keep bb)
  replace VG := hid (VG.out.keep bb)
  replace VY := hid (VY.out.keep bb)
  replace VR := hid (VR.out.keep bb)
  replace PP := hid (PP.out.trans (bb.mono PP.out.size))
  clear bb
  clear RU RV RB VS
  refine ⟨_, rfl, ?_⟩
  have ZA := hid (show ∀ (a : Act) (T2 : TypeId) (p2 : String) (af : Array Edge), (execOp a.eval ⟨some 9, .alloc 75, T2, p2, af, none⟩).run Try.prog w4 = .ok (.value (.pointer (some ⟨w4.heap.size, 0, none⟩))) (w4.alloc (.cells z20.toArray 75)) from fun a T2 p2 af => by unfold z20; go_simp)
  refine ops_val rfl (ZA.out _ _ _ _) ?_
  have A := below_alloc1 w4 (.cells z20.toArray 75)
  have VB0 := vb_new w4 z20 75
  obtain ⟨b, hb⟩ : ∃ b, w4.heap.size = b := ⟨_, rfl⟩
  replace RG := hid (RG.out.keep A)
  replace VQ := hid (VQ.out.keep A)
  replace VG := hid (VG.out.keep A)
  replace VY := hid (VY.out.keep A)
  replace VR := hid (VR.out.keep A)
  replace PP := hid (PP.out.trans (A.mono PP.out.size))
  clear A
  rw [hb] at VB0 HLB ⊢
  obtain ⟨w5, hw5⟩ : ∃ X, w4.alloc (.cells z20.toArray 75) = X := ⟨_, rfl⟩
  rw [hw5] at RG VQ VG VY VR PP VB0 ⊢
  clear hw5 hb ZA
  refine ops_store (v := .agg (bvs pc ht xs ys z6).toArray) rfl rfl rfl (st_body VB0 rfl (by rw [bvs_len, LR.out, LM.out]; rfl) (one_bvs one_z6)) ?_
  have HB := hid (show Bod (w5.setCells b 0 (bvs pc ht xs ys z6)) b pc ht xs ys z6 from ⟨LR.out, LM.out, vb_store VB0 (by rw [bvs_len, LR.out, LM.out]; rfl)⟩)
  have CC := chg_setCellsL b (bvs pc ht xs ys z6) 0 w5
  replace VQ := hid (VQ.out.chg CC (fun e => by have e : _ = b := e; have := HLB.out; omega))
  replace VG := hid (VG.out.chg CC (fun e => by have e : _ = b := e; have := HLB.out; omega))
  replace VY := hid (VY.out.chg CC (fun e => by have e : _ = b := e; have := HLB.out; omega))
  replace VR := hid (VR.out.chg CC (fun e => by have e : _ = b := e; have := HLB.out; omega))
  replace RG := hid (rd_chg RG.out CC (fun hl j hj e => by have e : j = b := e; have := HGO.out hl j hj; have := HLB.out; omega))
  replace PP := hid (below_chg PP.out CC PP.out.size (fun j hj => by have hj : j = b := hj; have := HLB.out; omega))
  obtain ⟨w6, hw6⟩ : ∃ X, w5.setCells b 0 (bvs pc ht xs ys z6) = X := ⟨_, rfl⟩
  rw [hw6] at HB PP RG VQ VG VY VR ⊢
  clear hw6 CC VB0
  first | change Exit.then _ _ _ _ _ | change Exit.inBlock _ _ _ _ _
  simp only [List.setIfInBounds_toArray, List.set_cons_zero, List.set_cons_succ]
  have c13 := HB.out.halt
  skip
  go_upto_region 5 with fail
  refine wp_region ?_
  change wpOps _ _ _ [0, 1, 2] _ _
  refine ops_load rfl rfl (ld_body HB.out.vb (HB.out.l20 rfl)) ?_
  refine ops_call rfl (fun xs w => by go_simp) rfl ?_
  refine (state_bod pc (ht) 0 0 0 0 0 none 0 0 (xs) (ys) _ HB.out.lr HB.out.lm).mono ?_
  rintro e w8 ⟨u8, v8, rfl, o1, o2, ap, b8⟩
  obtain ⟨ua, uc, rfl, _⟩ := ownI_form o1
  obtain ⟨va, vc, rfl, _⟩ := ownI_form o2
  refine ⟨_, rfl, ?_⟩
  refine ops_store rfl rfl rfl (st_state (VR.out.keep b8) _ _ _ _ _ _ _ _) ?_
  obtain ⟨e1, e2, e3, e4⟩ := give_end (pc := pc) (H := (ht)) (w := w) (B := w.heap.size + 4) (by omega) PP.out VR.out o1 o2 ap b8
  have AP := hid ap
  have E1 := hid e1
  have E2 := hid e2
  have E3 := hid e3
  have E4 := hid e4
  obtain ⟨w9, hw9⟩ : ∃ X, st4 w8 (w.heap.size + 4) (.int .i64 pc) (.slice ua 4 uc) (.slice va 8 vc) (.int .i64 ((ht))) = X := ⟨_, rfl⟩
  rw [hw9] at E1 E2 E3 E4 ⊢
  clear hw9 o1 o2 ap b8 e1 e2 e3 e4
  first | change Exit.then _ _ _ _ _ | change Exit.inBlock _ _ _ _ _
  simp only [List.setIfInBounds_toArray, List.set_cons_zero, List.set_cons_succ]
  go_wp2_with fail
  refine bodyPost_ret (resGive _ rfl E1.out) rfl ?_
  exact ⟨_, _, rfl, E2.out, E3.out, AP.out, E4.out⟩
set_option maxHeartbeats 16000000 in
theorem give_sends (pc ht k y : Int) (p g f : Nat) (ba : Option Addr) (bc : Nat) (bs : List Int) (gv : Value) (got : List Int) (yes : Bool) (u v : Value) (xs ys : List Int) (w : World) (hu : RdI 1 w u 4 xs) (hv : RdI 1 w v 8 ys) (hb : Rd w (.slice ba bs.length bc) bs) (hgv : Rd w gv got) (hg : g < 4) (hf : f < 4) (hp : p ≤ 255) (h0 : ht = 0) (h1 : k = 1) (hok : gvB pc 4 xs 8 ys ht k y bs.length (p : Int) (g : Int) (f : Int) got = true) :
    Calls Try.prog 21 #[.agg #[.int .i64 pc, u, v, .int .i64 ht], .agg #[.int .i64 k, .int .i64 y, .slice ba bs.length bc, .int .i64 (p : Int), .int .i64 (g : Int), .int .i64 (f : Int)], gv, .bool yes] w fun e w' => GivePost true pc (0) (xs.set g (snI yes)) (ys) w e w' := by
  simp only [gvB, Bool.and_eq_true] at hok
  have HC0 := hid hok.1
  have HC1 := hid hok.2.1
  have HC2 := hid hok.2.2
  have LR := hid (show xs.length = 4 from by have := hu.1; omega)
  have LM := hid (show ys.length = 8 from by have := hv.1; omega)
  have RU := hid hu
  have RV := hid hv
  have RB := hid hb
  have RG := hid hgv
  obtain ⟨_, _, a1, c1, rfl, _⟩ := hu
  obtain ⟨_, _, a2, c2, rfl, _⟩ := hv
  obtain ⟨_, _, ga, gc, rfl, _⟩ := hgv
  have HGO := hid (rd_old RG.out)
  clear hb hok
  subst h0
  subst h1
  go_enter Try.func21, Try.ntmps21
  go_wp2_with fail
  have PP := hid (Below.refl w.heap.size w)
  have A := below_alloc1 w (.cells #[.int .i64 pc, .slice a1 4 c1, .slice a2 8 c2, .int .i64 0] 25)
  replace RU := hid (RU.out.keep A)
  replace RV := hid (RV.out.keep A)
  replace RB := hid (RB.out.keep A)
  replace RG := hid (RG.out.keep A)
  replace PP := hid (PP.out.trans (A.mono PP.out.size))
  have VS := hid (vb_new w [.int .i64 pc, .slice a1 4 c1, .slice a2 8 c2, .int .i64 0] 25)
  have z0 : (w.alloc (.cells #[.int .i64 pc, .slice a1 4 c1, .slice a2 8 c2, .int .i64 0] 25)).heap.size = w.heap.size + 1 := by simp
  obtain ⟨U0, hU0⟩ : ∃ X, w.alloc (.cells #[.int .i64 pc, .slice a1 4 c1, .slice a2 8 c2, .int .i64 0] 25) = X := ⟨_, rfl⟩
  rw [hU0] at z0 RU RV RB RG VS PP
  try rw [hU0]
  clear A hU0
  have A := below_alloc1 U0 (.cells #[.int .i64 1, .int .i64 y, .slice ba bs.length bc, .int .i64 (p : Int), .int .i64 (g : Int), .int .i64 (f : Int)] 30)
  replace RU := hid (RU.out.keep A)
  replace RV := hid (RV.out.keep A)
  replace RB := hid (RB.out.keep A)
  replace RG := hid (RG.out.keep A)
  replace VS := hid (VS.out.keep A)
  replace PP := hid (PP.out.trans (A.mono PP.out.size))
  have VQ := hid (vb_new U0 [.int .i64 1, .int .i64 y, .slice ba bs.length bc, .int .i64 (p : Int), .int .i64 (g : Int), .int .i64 (f : Int)] 30)
  have z1 : (U0.alloc (.cells #[.int .i64 1, .int .i64 y, .slice ba bs.length bc, .int .i64 (p : Int), .int .i64 (g : Int), .int .i64 (f : Int)] 30)).heap.size = w.heap.size + 2 := by simp [z0]
  rw [z0] at VQ
  obtain ⟨U1, hU1⟩ : ∃ X, U0.alloc (.cells #[.int .i64 1, .int .i64 y, .slice ba bs.length bc, .int .i64 (p : Int), .int .i64 (g : Int), .int .i64 (f : Int)] 30) = X := ⟨_, rfl⟩
  rw [hU1] at z1 RU RV RB RG VS VQ PP
  try rw [hU1]
  clear A hU1
  have A := below_alloc1 U1 (.cells #[.slice ga got.length gc] 22)
  replace RU := hid (RU.out.keep A)
  replace RV := hid (RV.out.keep A)
  replace RB := hid (RB.out.keep A)
  replace RG := hid (RG.out.keep A)
  replace VS := hid (VS.out.keep A)
  replace VQ := hid (VQ.out.keep A)
  replace PP := hid (PP.out.trans (A.mono PP.out.size))
  have VG := hid (vb_new U1 [.slice ga got.length gc] 22)
  have z2 : (U1.alloc (.cells #[.slice ga got.length gc] 22)).heap.size = w.heap.size + 3 := by simp [z1]
  rw [z1] at VG
  obtain ⟨U2, hU2⟩ : ∃ X, U1.alloc (.cells #[.slice ga got.length gc] 22) = X := ⟨_, rfl⟩
  rw [hU2] at z2 RU RV RB RG VS VQ VG PP
  try rw [hU2]
  clear A hU2
  have A := below_alloc1 U2 (.cells #[.bool yes] 4)
  replace RU := hid (RU.out.keep A)
  replace RV := hid (RV.out.keep A)
  replace RB := hid (RB.out.keep A)
  replace RG := hid (RG.out.keep A)
  replace VS := hid (VS.out.keep A)
  replace VQ := hid (VQ.out.keep A)
  replace VG := hid (VG.out.keep A)
  replace PP := hid (PP.out.trans (A.mono PP.out.size))
  have VY := hid (vb_new U2 [.bool yes] 4)
  have z3 : (U2.alloc (.cells #[.bool yes] 4)).heap.size = w.heap.size + 4 := by simp [z2]
  rw [z2] at VY
  obtain ⟨U3, hU3⟩ : ∃ X, U2.alloc (.cells #[.bool yes] 4) = X := ⟨_, rfl⟩
  rw [hU3] at z3 RU RV RB RG VS VQ VG VY PP
  try rw [hU3]
  clear A hU3
  have A := below_alloc1 U3 (.cells #[.int .i64 0, .slice none 0 0, .slice none 0 0, .int .i64 0] 25)
  replace RU := hid (RU.out.keep A)
  replace RV := hid (RV.out.keep A)
  replace RB := hid (RB.out.keep A)
  replace RG := hid (RG.out.keep A)
  replace VS := hid (VS.out.keep A)
  replace VQ := hid (VQ.out.keep A)
  replace VG := hid (VG.out.keep A)
  replace VY := hid (VY.out.keep A)
  replace PP := hid (PP.out.trans (A.mono PP.out.size))
  have VR := hid (vb_new U3 [.int .i64 0, .slice none 0 0, .slice none 0 0, .int .i64 0] 25)
  have z4 : (U3.alloc (.cells #[.int .i64 0, .slice none 0 0, .slice none 0 0, .int .i64 0] 25)).heap.size = w.heap.size + 5 := by simp [z3]
  rw [z3] at VR
  obtain ⟨U4, hU4⟩ : ∃ X, U3.alloc (.cells #[.int .i64 0, .slice none 0 0, .slice none 0 0, .int .i64 0] 25) = X := ⟨_, rfl⟩
  rw [hU4] at z4 RU RV RB RG VS VQ VG VY VR PP
  try rw [hU4]
  clear A hU4
  obtain ⟨s0, s1, s2, s3⟩ := vb4 VS.out
  refine (vmOk_any pc 0 _ _ 4 8 xs ys _ RU.out RV.out).mono ?_
  rw [HC0.out]
  rintro e w1 ⟨rfl, bb⟩
  clear s0 s1 s2 s3
  replace RU := hid (RU.out.keep bb)
  replace RV := hid (RV.out.keep bb)
  replace RB := hid (RB.out.keep bb)
  replace RG := hid (RG.out.keep bb)
  replace VS := hid (VS.out.keep bb)
  replace VQ := hid (VQ.out.keep bb)
  replace VG := hid (VG.out.keep bb)
  replace VY := hid (VY.out.keep bb)
  replace VR := hid (VR.out.keep bb)
  replace PP := hid (PP.out.trans (bb.mono PP.out.size))
  clear bb
  obtain ⟨q0, q1, q2, q3, q4, q5⟩ := vb6 VQ.out
  go_wp2_with fail
  clear q0 q1 q2 q3 q4 q5
  refine (may_any 1 y (p : Int) (g : Int) (f : Int) ba bc bs _ RB.out).mono ?_
  rw [HC1.out]
  rintro e w2 ⟨rfl, bb⟩
  replace RU := hid (RU.out.keep bb)
  replace RV := hid (RV.out.keep bb)
  replace RB := hid (RB.out.keep bb)
  replace RG := hid (RG.out.keep bb)
  replace VS := hid (VS.out.keep bb)
  replace VQ := hid (VQ.out.keep bb)
  replace VG := hid (VG.out.keep bb)
  replace VY := hid (VY.out.keep bb)
  replace VR := hid (VR.out.keep bb)
  replace PP := hid (PP.out.trans (bb.mono PP.out.size))
  clear bb
  have g0 := vb1 VG.out
  go_wp2_with fail
  clear g0
  refine (implMsg_any _ got _ RG.out).mono ?_
  rw [HC2.out]
  rintro e w3 ⟨rfl, rfl⟩
  have HLB := hid (show ∀ w4 : World, Below w3.heap.size w3 w4 → w.heap.size + 4 < w4.heap.size from fun w4 h => Nat.lt_of_lt_of_le VR.out.2.2 h.size)
  go_upto_region 3 with fail
  refine wp_region ?_
  change wpOps _ _ _ [0, 1, 2, 3] _ _
  refine ops_load rfl rfl (ld_state VS.out) ?_
  refine ops_call rfl (fun xs w => by go_simp) rfl ?_
  refine (open_bod pc 0 xs ys _ _ _ LR.out LM.out RU.out RV.out).mono ?_
  rintro e w4 ⟨rfl, bb⟩
  replace HLB := hid (HLB.out w4 bb)
  replace RU := hid (RU.out.keep bb)
  replace RV := hid (RV.out.keep bb)
  replace RB := hid (RB.out.keep bb)
  replace RG := hid (RG.out.keep bb)
  replace VS := hid (VS.out.keep bb)
  replace VQ := hid (VQ.out.keep bb)
  replace VG := hid (VG.out.keep bb)
  replace VY := hid (VY.out.keep bb)
  replace VR := hid (VR.out.keep bb)
  replace PP := hid (PP.out.trans (bb.mono PP.out.size))
  clear bb
  clear RU RV RB VS
  refine ⟨_, rfl, ?_⟩
  have ZA := hid (show ∀ (a : Act) (T2 : TypeId) (p2 : String) (af : Array Edge), (execOp a.eval ⟨some 9, .alloc 75, T2, p2, af, none⟩).run Try.prog w4 = .ok (.value (.pointer (some ⟨w4.heap.size, 0, none⟩))) (w4.alloc (.cells z20.toArray 75)) from fun a T2 p2 af => by unfold z20; go_simp)
  refine ops_val rfl (ZA.out _ _ _ _) ?_
  have A := below_alloc1 w4 (.cells z20.toArray 75)
  have VB0 := vb_new w4 z20 75
  obtain ⟨b, hb⟩ : ∃ b, w4.heap.size = b := ⟨_, rfl⟩
  replace RG := hid (RG.out.keep A)
  replace VQ := hid (VQ.out.keep A)
  replace VG := hid (VG.out.keep A)
  replace VY := hid (VY.out.keep A)
  replace VR := hid (VR.out.keep A)
  replace PP := hid (PP.out.trans (A.mono PP.out.size))
  clear A
  rw [hb] at VB0 HLB ⊢
  obtain ⟨w5, hw5⟩ : ∃ X, w4.alloc (.cells z20.toArray 75) = X := ⟨_, rfl⟩
  rw [hw5] at RG VQ VG VY VR PP VB0 ⊢
  clear hw5 hb ZA
  refine ops_store (v := .agg (bvs pc 0 xs ys z6).toArray) rfl rfl rfl (st_body VB0 rfl (by rw [bvs_len, LR.out, LM.out]; rfl) (one_bvs one_z6)) ?_
  have HB := hid (show Bod (w5.setCells b 0 (bvs pc 0 xs ys z6)) b pc 0 xs ys z6 from ⟨LR.out, LM.out, vb_store VB0 (by rw [bvs_len, LR.out, LM.out]; rfl)⟩)
  have CC := chg_setCellsL b (bvs pc 0 xs ys z6) 0 w5
  replace VQ := hid (VQ.out.chg CC (fun e => by have e : _ = b := e; have := HLB.out; omega))
  replace VG := hid (VG.out.chg CC (fun e => by have e : _ = b := e; have := HLB.out; omega))
  replace VY := hid (VY.out.chg CC (fun e => by have e : _ = b := e; have := HLB.out; omega))
  replace VR := hid (VR.out.chg CC (fun e => by have e : _ = b := e; have := HLB.out; omega))
  replace RG := hid (rd_chg RG.out CC (fun hl j hj e => by have e : j = b := e; have := HGO.out hl j hj; have := HLB.out; omega))
  replace PP := hid (below_chg PP.out CC PP.out.size (fun j hj => by have hj : j = b := hj; have := HLB.out; omega))
  obtain ⟨w6, hw6⟩ : ∃ X, w5.setCells b 0 (bvs pc 0 xs ys z6) = X := ⟨_, rfl⟩
  rw [hw6] at HB PP RG VQ VG VY VR ⊢
  clear hw6 CC VB0
  first | change Exit.then _ _ _ _ _ | change Exit.inBlock _ _ _ _ _
  simp only [List.setIfInBounds_toArray, List.set_cons_zero, List.set_cons_succ]
  have c13 := HB.out.halt
  obtain ⟨q0, q1, q2, q3, q4, q5⟩ := vb6 VQ.out
  have y0 := vb1 VY.out
  go_wp2_with fail
  refine (sent_any 1 y (p : Int) pc 0 g f ba bs.length bc yes xs ys z6 b _ hg hf HB.out).mono ?_
  rintro e w7 ⟨rfl, hb7, c7⟩
  clear c13 q0 q1 q2 q3 q4 q5 y0
  replace HB := hid (show Bod w7 b pc 0 (xs.set g (snI yes)) ys z6 from hb7)
  replace VQ := hid (VQ.out.chg c7 (fun e => by have e : _ = b := e; have := HLB.out; omega))
  replace VG := hid (VG.out.chg c7 (fun e => by have e : _ = b := e; have := HLB.out; omega))
  replace VY := hid (VY.out.chg c7 (fun e => by have e : _ = b := e; have := HLB.out; omega))
  replace VR := hid (VR.out.chg c7 (fun e => by have e : _ = b := e; have := HLB.out; omega))
  replace RG := hid (rd_chg RG.out c7 (fun hl j hj e => by have e : j = b := e; have := HGO.out hl j hj; have := HLB.out; omega))
  replace PP := hid (below_chg PP.out c7 PP.out.size (fun j hj => by have hj : j = b := hj; have := HLB.out; omega))
  clear hb7 c7
  go_upto_region 13 with fail
  refine wp_region ?_
  change wpOps _ _ _ [0, 1, 2] _ _
  refine ops_load rfl rfl (ld_body HB.out.vb (HB.out.l20 rfl)) ?_
  refine ops_call rfl (fun xs w => by go_simp) rfl ?_
  refine (state_bod pc (0) 0 0 0 0 0 none 0 0 (xs.set g (snI yes)) (ys) _ HB.out.lr HB.out.lm).mono ?_
  rintro e w8 ⟨u8, v8, rfl, o1, o2, ap, b8⟩
  obtain ⟨ua, uc, rfl, _⟩ := ownI_form o1
  obtain ⟨va, vc, rfl, _⟩ := ownI_form o2
  refine ⟨_, rfl, ?_⟩
  refine ops_store rfl rfl rfl (st_state (VR.out.keep b8) _ _ _ _ _ _ _ _) ?_
  obtain ⟨e1, e2, e3, e4⟩ := give_end (pc := pc) (H := (0)) (w := w) (B := w.heap.size + 4) (by omega) PP.out VR.out o1 o2 ap b8
  have AP := hid ap
  have E1 := hid e1
  have E2 := hid e2
  have E3 := hid e3
  have E4 := hid e4
  obtain ⟨w9, hw9⟩ : ∃ X, st4 w8 (w.heap.size + 4) (.int .i64 pc) (.slice ua 4 uc) (.slice va 8 vc) (.int .i64 ((0))) = X := ⟨_, rfl⟩
  rw [hw9] at E1 E2 E3 E4 ⊢
  clear hw9 o1 o2 ap b8 e1 e2 e3 e4
  first | change Exit.then _ _ _ _ _ | change Exit.inBlock _ _ _ _ _
  simp only [List.setIfInBounds_toArray, List.set_cons_zero, List.set_cons_succ]
  go_wp2_with fail
  refine bodyPost_ret (resGive _ rfl E1.out) rfl ?_
  exact ⟨_, _, rfl, E2.out, E3.out, AP.out, E4.out⟩
set_option maxHeartbeats 16000000 in
theorem give_reads (pc ht k y : Int) (p g f : Nat) (ba : Option Addr) (bc : Nat) (bs : List Int) (gv : Value) (got : List Int) (yes : Bool) (u v : Value) (xs ys : List Int) (w : World) (hu : RdI 1 w u 4 xs) (hv : RdI 1 w v 8 ys) (hb : Rd w (.slice ba bs.length bc) bs) (hgv : Rd w gv got) (hg : g < 4) (hf : f < 4) (hp : p ≤ 255) (h0 : ht = 0) (h1 : k = 3) (hok : gvB pc 4 xs 8 ys ht k y bs.length (p : Int) (g : Int) (f : Int) got = true) :
    Calls Try.prog 21 #[.agg #[.int .i64 pc, u, v, .int .i64 ht], .agg #[.int .i64 k, .int .i64 y, .slice ba bs.length bc, .int .i64 (p : Int), .int .i64 (g : Int), .int .i64 (f : Int)], gv, .bool yes] w fun e w' => GivePost true pc (0) ((xs.set g (rdF yes got)).set f (rdG yes got)) (ys) w e w' := by
  simp only [gvB, Bool.and_eq_true] at hok
  have HC0 := hid hok.1
  have HC1 := hid hok.2.1
  have HC2 := hid hok.2.2
  have LR := hid (show xs.length = 4 from by have := hu.1; omega)
  have LM := hid (show ys.length = 8 from by have := hv.1; omega)
  have RU := hid hu
  have RV := hid hv
  have RB := hid hb
  have RG := hid hgv
  obtain ⟨_, _, a1, c1, rfl, _⟩ := hu
  obtain ⟨_, _, a2, c2, rfl, _⟩ := hv
  obtain ⟨_, _, ga, gc, rfl, _⟩ := hgv
  have HGO := hid (rd_old RG.out)
  clear hb hok
  subst h0
  subst h1
  go_enter Try.func21, Try.ntmps21
  go_wp2_with fail
  have PP := hid (Below.refl w.heap.size w)
  have A := below_alloc1 w (.cells #[.int .i64 pc, .slice a1 4 c1, .slice a2 8 c2, .int .i64 0] 25)
  replace RU := hid (RU.out.keep A)
  replace RV := hid (RV.out.keep A)
  replace RB := hid (RB.out.keep A)
  replace RG := hid (RG.out.keep A)
  replace PP := hid (PP.out.trans (A.mono PP.out.size))
  have VS := hid (vb_new w [.int .i64 pc, .slice a1 4 c1, .slice a2 8 c2, .int .i64 0] 25)
  have z0 : (w.alloc (.cells #[.int .i64 pc, .slice a1 4 c1, .slice a2 8 c2, .int .i64 0] 25)).heap.size = w.heap.size + 1 := by simp
  obtain ⟨U0, hU0⟩ : ∃ X, w.alloc (.cells #[.int .i64 pc, .slice a1 4 c1, .slice a2 8 c2, .int .i64 0] 25) = X := ⟨_, rfl⟩
  rw [hU0] at z0 RU RV RB RG VS PP
  try rw [hU0]
  clear A hU0
  have A := below_alloc1 U0 (.cells #[.int .i64 3, .int .i64 y, .slice ba bs.length bc, .int .i64 (p : Int), .int .i64 (g : Int), .int .i64 (f : Int)] 30)
  replace RU := hid (RU.out.keep A)
  replace RV := hid (RV.out.keep A)
  replace RB := hid (RB.out.keep A)
  replace RG := hid (RG.out.keep A)
  replace VS := hid (VS.out.keep A)
  replace PP := hid (PP.out.trans (A.mono PP.out.size))
  have VQ := hid (vb_new U0 [.int .i64 3, .int .i64 y, .slice ba bs.length bc, .int .i64 (p : Int), .int .i64 (g : Int), .int .i64 (f : Int)] 30)
  have z1 : (U0.alloc (.cells #[.int .i64 3, .int .i64 y, .slice ba bs.length bc, .int .i64 (p : Int), .int .i64 (g : Int), .int .i64 (f : Int)] 30)).heap.size = w.heap.size + 2 := by simp [z0]
  rw [z0] at VQ
  obtain ⟨U1, hU1⟩ : ∃ X, U0.alloc (.cells #[.int .i64 3, .int .i64 y, .slice ba bs.length bc, .int .i64 (p : Int), .int .i64 (g : Int), .int .i64 (f : Int)] 30) = X := ⟨_, rfl⟩
  rw [hU1] at z1 RU RV RB RG VS VQ PP
  try rw [hU1]
  clear A hU1
  have A := below_alloc1 U1 (.cells #[.slice ga got.length gc] 22)
  replace RU := hid (RU.out.keep A)
  replace RV := hid (RV.out.keep A)
  replace RB := hid (RB.out.keep A)
  replace RG := hid (RG.out.keep A)
  replace VS := hid (VS.out.keep A)
  replace VQ := hid (VQ.out.keep A)
  replace PP := hid (PP.out.trans (A.mono PP.out.size))
  have VG := hid (vb_new U1 [.slice ga got.length gc] 22)
  have z2 : (U1.alloc (.cells #[.slice ga got.length gc] 22)).heap.size = w.heap.size + 3 := by simp [z1]
  rw [z1] at VG
  obtain ⟨U2, hU2⟩ : ∃ X, U1.alloc (.cells #[.slice ga got.length gc] 22) = X := ⟨_, rfl⟩
  rw [hU2] at z2 RU RV RB RG VS VQ VG PP
  try rw [hU2]
  clear A hU2
  have A := below_alloc1 U2 (.cells #[.bool yes] 4)
  replace RU := hid (RU.out.keep A)
  replace RV := hid (RV.out.keep A)
  replace RB := hid (RB.out.keep A)
  replace RG := hid (RG.out.keep A)
  replace VS := hid (VS.out.keep A)
  replace VQ := hid (VQ.out.keep A)
  replace VG := hid (VG.out.keep A)
  replace PP := hid (PP.out.trans (A.mono PP.out.size))
  have VY := hid (vb_new U2 [.bool yes] 4)
  have z3 : (U2.alloc (.cells #[.bool yes] 4)).heap.size = w.heap.size + 4 := by simp [z2]
  rw [z2] at VY
  obtain ⟨U3, hU3⟩ : ∃ X, U2.alloc (.cells #[.bool yes] 4) = X := ⟨_, rfl⟩
  rw [hU3] at z3 RU RV RB RG VS VQ VG VY PP
  try rw [hU3]
  clear A hU3
  have A := below_alloc1 U3 (.cells #[.int .i64 0, .slice none 0 0, .slice none 0 0, .int .i64 0] 25)
  replace RU := hid (RU.out.keep A)
  replace RV := hid (RV.out.keep A)
  replace RB := hid (RB.out.keep A)
  replace RG := hid (RG.out.keep A)
  replace VS := hid (VS.out.keep A)
  replace VQ := hid (VQ.out.keep A)
  replace VG := hid (VG.out.keep A)
  replace VY := hid (VY.out.keep A)
  replace PP := hid (PP.out.trans (A.mono PP.out.size))
  have VR := hid (vb_new U3 [.int .i64 0, .slice none 0 0, .slice none 0 0, .int .i64 0] 25)
  have z4 : (U3.alloc (.cells #[.int .i64 0, .slice none 0 0, .slice none 0 0, .int .i64 0] 25)).heap.size = w.heap.size + 5 := by simp [z3]
  rw [z3] at VR
  obtain ⟨U4, hU4⟩ : ∃ X, U3.alloc (.cells #[.int .i64 0, .slice none 0 0, .slice none 0 0, .int .i64 0] 25) = X := ⟨_, rfl⟩
  rw [hU4] at z4 RU RV RB RG VS VQ VG VY VR PP
  try rw [hU4]
  clear A hU4
  obtain ⟨s0, s1, s2, s3⟩ := vb4 VS.out
  refine (vmOk_any pc 0 _ _ 4 8 xs ys _ RU.out RV.out).mono ?_
  rw [HC0.out]
  rintro e w1 ⟨rfl, bb⟩
  clear s0 s1 s2 s3
  replace RU := hid (RU.out.keep bb)
  replace RV := hid (RV.out.keep bb)
  replace RB := hid (RB.out.keep bb)
  replace RG := hid (RG.out.keep bb)
  replace VS := hid (VS.out.keep bb)
  replace VQ := hid (VQ.out.keep bb)
  replace VG := hid (VG.out.keep bb)
  replace VY := hid (VY.out.keep bb)
  replace VR := hid (VR.out.keep bb)
  replace PP := hid (PP.out.trans (bb.mono PP.out.size))
  clear bb
  obtain ⟨q0, q1, q2, q3, q4, q5⟩ := vb6 VQ.out
  go_wp2_with fail
  clear q0 q1 q2 q3 q4 q5
  refine (may_any 3 y (p : Int) (g : Int) (f : Int) ba bc bs _ RB.out).mono ?_
  rw [HC1.out]
  rintro e w2 ⟨rfl, bb⟩
  replace RU := hid (RU.out.keep bb)
  replace RV := hid (RV.out.keep bb)
  replace RB := hid (RB.out.keep bb)
  replace RG := hid (RG.out.keep bb)
  replace VS := hid (VS.out.keep bb)
  replace VQ := hid (VQ.out.keep bb)
  replace VG := hid (VG.out.keep bb)
  replace VY := hid (VY.out.keep bb)
  replace VR := hid (VR.out.keep bb)
  replace PP := hid (PP.out.trans (bb.mono PP.out.size))
  clear bb
  have g0 := vb1 VG.out
  go_wp2_with fail
  clear g0
  refine (implMsg_any _ got _ RG.out).mono ?_
  rw [HC2.out]
  rintro e w3 ⟨rfl, rfl⟩
  have HLB := hid (show ∀ w4 : World, Below w3.heap.size w3 w4 → w.heap.size + 4 < w4.heap.size from fun w4 h => Nat.lt_of_lt_of_le VR.out.2.2 h.size)
  go_upto_region 3 with fail
  refine wp_region ?_
  change wpOps _ _ _ [0, 1, 2, 3] _ _
  refine ops_load rfl rfl (ld_state VS.out) ?_
  refine ops_call rfl (fun xs w => by go_simp) rfl ?_
  refine (open_bod pc 0 xs ys _ _ _ LR.out LM.out RU.out RV.out).mono ?_
  rintro e w4 ⟨rfl, bb⟩
  replace HLB := hid (HLB.out w4 bb)
  replace RU := hid (RU.out.keep bb)
  replace RV := hid (RV.out.keep bb)
  replace RB := hid (RB.out.keep bb)
  replace RG := hid (RG.out.keep bb)
  replace VS := hid (VS.out.keep bb)
  replace VQ := hid (VQ.out.keep bb)
  replace VG := hid (VG.out.keep bb)
  replace VY := hid (VY.out.keep bb)
  replace VR := hid (VR.out.keep bb)
  replace PP := hid (PP.out.trans (bb.mono PP.out.size))
  clear bb
  clear RU RV RB VS
  refine ⟨_, rfl, ?_⟩
  have ZA := hid (show ∀ (a : Act) (T2 : TypeId) (p2 : String) (af : Array Edge), (execOp a.eval ⟨some 9, .alloc 75, T2, p2, af, none⟩).run Try.prog w4 = .ok (.value (.pointer (some ⟨w4.heap.size, 0, none⟩))) (w4.alloc (.cells z20.toArray 75)) from fun a T2 p2 af => by unfold z20; go_simp)
  refine ops_val rfl (ZA.out _ _ _ _) ?_
  have A := below_alloc1 w4 (.cells z20.toArray 75)
  have VB0 := vb_new w4 z20 75
  obtain ⟨b, hb⟩ : ∃ b, w4.heap.size = b := ⟨_, rfl⟩
  replace RG := hid (RG.out.keep A)
  replace VQ := hid (VQ.out.keep A)
  replace VG := hid (VG.out.keep A)
  replace VY := hid (VY.out.keep A)
  replace VR := hid (VR.out.keep A)
  replace PP := hid (PP.out.trans (A.mono PP.out.size))
  clear A
  rw [hb] at VB0 HLB ⊢
  obtain ⟨w5, hw5⟩ : ∃ X, w4.alloc (.cells z20.toArray 75) = X := ⟨_, rfl⟩
  rw [hw5] at RG VQ VG VY VR PP VB0 ⊢
  clear hw5 hb ZA
  refine ops_store (v := .agg (bvs pc 0 xs ys z6).toArray) rfl rfl rfl (st_body VB0 rfl (by rw [bvs_len, LR.out, LM.out]; rfl) (one_bvs one_z6)) ?_
  have HB := hid (show Bod (w5.setCells b 0 (bvs pc 0 xs ys z6)) b pc 0 xs ys z6 from ⟨LR.out, LM.out, vb_store VB0 (by rw [bvs_len, LR.out, LM.out]; rfl)⟩)
  have CC := chg_setCellsL b (bvs pc 0 xs ys z6) 0 w5
  replace VQ := hid (VQ.out.chg CC (fun e => by have e : _ = b := e; have := HLB.out; omega))
  replace VG := hid (VG.out.chg CC (fun e => by have e : _ = b := e; have := HLB.out; omega))
  replace VY := hid (VY.out.chg CC (fun e => by have e : _ = b := e; have := HLB.out; omega))
  replace VR := hid (VR.out.chg CC (fun e => by have e : _ = b := e; have := HLB.out; omega))
  replace RG := hid (rd_chg RG.out CC (fun hl j hj e => by have e : j = b := e; have := HGO.out hl j hj; have := HLB.out; omega))
  replace PP := hid (below_chg PP.out CC PP.out.size (fun j hj => by have hj : j = b := hj; have := HLB.out; omega))
  obtain ⟨w6, hw6⟩ : ∃ X, w5.setCells b 0 (bvs pc 0 xs ys z6) = X := ⟨_, rfl⟩
  rw [hw6] at HB PP RG VQ VG VY VR ⊢
  clear hw6 CC VB0
  first | change Exit.then _ _ _ _ _ | change Exit.inBlock _ _ _ _ _
  simp only [List.setIfInBounds_toArray, List.set_cons_zero, List.set_cons_succ]
  have c13 := HB.out.halt
  obtain ⟨q0, q1, q2, q3, q4, q5⟩ := vb6 VQ.out
  have y0 := vb1 VY.out
  have g0 := vb1 VG.out
  go_wp2_with fail
  refine (read_any 3 y (p : Int) pc 0 g f ba bs.length bc yes got _ xs ys z6 b _ RG.out hg hf HB.out).mono ?_
  rintro e w7 ⟨rfl, hb7, c7⟩
  clear c13 q0 q1 q2 q3 q4 q5 y0 g0
  replace HB := hid hb7
  replace VQ := hid (VQ.out.chg c7 (fun e => by have e : _ = b := e; have := HLB.out; omega))
  replace VG := hid (VG.out.chg c7 (fun e => by have e : _ = b := e; have := HLB.out; omega))
  replace VY := hid (VY.out.chg c7 (fun e => by have e : _ = b := e; have := HLB.out; omega))
  replace VR := hid (VR.out.chg c7 (fun e => by have e : _ = b := e; have := HLB.out; omega))
  replace RG := hid (rd_chg RG.out c7 (fun hl j hj e => by have e : j = b := e; have := HGO.out hl j hj; have := HLB.out; omega))
  replace PP := hid (below_chg PP.out c7 PP.out.size (fun j hj => by have hj : j = b := hj; have := HLB.out; omega))
  clear hb7 c7
  go_upto_region 13 with fail
  refine wp_region ?_
  change wpOps _ _ _ [0, 1, 2] _ _
  refine ops_load rfl rfl (ld_body HB.out.vb (HB.out.l20 rfl)) ?_
  refine ops_call rfl (fun xs w => by go_simp) rfl ?_
  refine (state_bod pc (0) 0 0 0 0 0 none 0 0 ((xs.set g (rdF yes got)).set f (rdG yes got)) (ys) _ HB.out.lr HB.out.lm).mono ?_
  rintro e w8 ⟨u8, v8, rfl, o1, o2, ap, b8⟩
  obtain ⟨ua, uc, rfl, _⟩ := ownI_form o1
  obtain ⟨va, vc, rfl, _⟩ := ownI_form o2
  refine ⟨_, rfl, ?_⟩
  refine ops_store rfl rfl rfl (st_state (VR.out.keep b8) _ _ _ _ _ _ _ _) ?_
  obtain ⟨e1, e2, e3, e4⟩ := give_end (pc := pc) (H := (0)) (w := w) (B := w.heap.size + 4) (by omega) PP.out VR.out o1 o2 ap b8
  have AP := hid ap
  have E1 := hid e1
  have E2 := hid e2
  have E3 := hid e3
  have E4 := hid e4
  obtain ⟨w9, hw9⟩ : ∃ X, st4 w8 (w.heap.size + 4) (.int .i64 pc) (.slice ua 4 uc) (.slice va 8 vc) (.int .i64 ((0))) = X := ⟨_, rfl⟩
  rw [hw9] at E1 E2 E3 E4 ⊢
  clear hw9 o1 o2 ap b8 e1 e2 e3 e4
  first | change Exit.then _ _ _ _ _ | change Exit.inBlock _ _ _ _ _
  simp only [List.setIfInBounds_toArray, List.set_cons_zero, List.set_cons_succ]
  go_wp2_with fail
  refine bodyPost_ret (resGive _ rfl E1.out) rfl ?_
  exact ⟨_, _, rfl, E2.out, E3.out, AP.out, E4.out⟩
set_option maxHeartbeats 16000000 in
theorem give_other (pc ht k y : Int) (p g f : Nat) (ba : Option Addr) (bc : Nat) (bs : List Int) (gv : Value) (got : List Int) (yes : Bool) (u v : Value) (xs ys : List Int) (w : World) (hu : RdI 1 w u 4 xs) (hv : RdI 1 w v 8 ys) (hb : Rd w (.slice ba bs.length bc) bs) (hgv : Rd w gv got) (hg : g < 4) (hf : f < 4) (hp : p ≤ 255) (h0 : ht = 0) (h1 : ¬ k = 1) (h2 : ¬ k = 2) (h3 : ¬ k = 3) (hok : gvB pc 4 xs 8 ys ht k y bs.length (p : Int) (g : Int) (f : Int) got = true) :
    Calls Try.prog 21 #[.agg #[.int .i64 pc, u, v, .int .i64 ht], .agg #[.int .i64 k, .int .i64 y, .slice ba bs.length bc, .int .i64 (p : Int), .int .i64 (g : Int), .int .i64 (f : Int)], gv, .bool yes] w fun e w' => GivePost true pc (0) (xs) (ys) w e w' := by
  simp only [gvB, Bool.and_eq_true] at hok
  have HC0 := hid hok.1
  have HC1 := hid hok.2.1
  have HC2 := hid hok.2.2
  have LR := hid (show xs.length = 4 from by have := hu.1; omega)
  have LM := hid (show ys.length = 8 from by have := hv.1; omega)
  have RU := hid hu
  have RV := hid hv
  have RB := hid hb
  have RG := hid hgv
  obtain ⟨_, _, a1, c1, rfl, _⟩ := hu
  obtain ⟨_, _, a2, c2, rfl, _⟩ := hv
  obtain ⟨_, _, ga, gc, rfl, _⟩ := hgv
  have HGO := hid (rd_old RG.out)
  clear hb hok
  subst h0
  have d1 : (k == 1) = false := by simpa using h1
  have d2 : (k == 2) = false := by simpa using h2
  have d3 : (k == 3) = false := by simpa using h3
  go_enter Try.func21, Try.ntmps21
  go_wp2_with fail
  have PP := hid (Below.refl w.heap.size w)
  have A := below_alloc1 w (.cells #[.int .i64 pc, .slice a1 4 c1, .slice a2 8 c2, .int .i64 0] 25)
  replace RU := hid (RU.out.keep A)
  replace RV := hid (RV.out.keep A)
  replace RB := hid (RB.out.keep A)
  replace RG := hid (RG.out.keep A)
  replace PP := hid (PP.out.trans (A.mono PP.out.size))
  have VS := hid (vb_new w [.int .i64 pc, .slice a1 4 c1, .slice a2 8 c2, .int .i64 0] 25)
  have z0 : (w.alloc (.cells #[.int .i64 pc, .slice a1 4 c1, .slice a2 8 c2, .int .i64 0] 25)).heap.size = w.heap.size + 1 := by simp
  obtain ⟨U0, hU0⟩ : ∃ X, w.alloc (.cells #[.int .i64 pc, .slice a1 4 c1, .slice a2 8 c2, .int .i64 0] 25) = X := ⟨_, rfl⟩
  rw [hU0] at z0 RU RV RB RG VS PP
  try rw [hU0]
  clear A hU0
  have A := below_alloc1 U0 (.cells #[.int .i64 k, .int .i64 y, .slice ba bs.length bc, .int .i64 (p : Int), .int .i64 (g : Int), .int .i64 (f : Int)] 30)
  replace RU := hid (RU.out.keep A)
  replace RV := hid (RV.out.keep A)
  replace RB := hid (RB.out.keep A)
  replace RG := hid (RG.out.keep A)
  replace VS := hid (VS.out.keep A)
  replace PP := hid (PP.out.trans (A.mono PP.out.size))
  have VQ := hid (vb_new U0 [.int .i64 k, .int .i64 y, .slice ba bs.length bc, .int .i64 (p : Int), .int .i64 (g : Int), .int .i64 (f : Int)] 30)
  have z1 : (U0.alloc (.cells #[.int .i64 k, .int .i64 y, .slice ba bs.length bc, .int .i64 (p : Int), .int .i64 (g : Int), .int .i64 (f : Int)] 30)).heap.size = w.heap.size + 2 := by simp [z0]
  rw [z0] at VQ
  obtain ⟨U1, hU1⟩ : ∃ X, U0.alloc (.cells #[.int .i64 k, .int .i64 y, .slice ba bs.length bc, .int .i64 (p : Int), .int .i64 (g : Int), .int .i64 (f : Int)] 30) = X := ⟨_, rfl⟩
  rw [hU1] at z1 RU RV RB RG VS VQ PP
  try rw [hU1]
  clear A hU1
  have A := below_alloc1 U1 (.cells #[.slice ga got.length gc] 22)
  replace RU := hid (RU.out.keep A)
  replace RV := hid (RV.out.keep A)
  replace RB := hid (RB.out.keep A)
  replace RG := hid (RG.out.keep A)
  replace VS := hid (VS.out.keep A)
  replace VQ := hid (VQ.out.keep A)
  replace PP := hid (PP.out.trans (A.mono PP.out.size))
  have VG := hid (vb_new U1 [.slice ga got.length gc] 22)
  have z2 : (U1.alloc (.cells #[.slice ga got.length gc] 22)).heap.size = w.heap.size + 3 := by simp [z1]
  rw [z1] at VG
  obtain ⟨U2, hU2⟩ : ∃ X, U1.alloc (.cells #[.slice ga got.length gc] 22) = X := ⟨_, rfl⟩
  rw [hU2] at z2 RU RV RB RG VS VQ VG PP
  try rw [hU2]
  clear A hU2
  have A := below_alloc1 U2 (.cells #[.bool yes] 4)
  replace RU := hid (RU.out.keep A)
  replace RV := hid (RV.out.keep A)
  replace RB := hid (RB.out.keep A)
  replace RG := hid (RG.out.keep A)
  replace VS := hid (VS.out.keep A)
  replace VQ := hid (VQ.out.keep A)
  replace VG := hid (VG.out.keep A)
  replace PP := hid (PP.out.trans (A.mono PP.out.size))
  have VY := hid (vb_new U2 [.bool yes] 4)
  have z3 : (U2.alloc (.cells #[.bool yes] 4)).heap.size = w.heap.size + 4 := by simp [z2]
  rw [z2] at VY
  obtain ⟨U3, hU3⟩ : ∃ X, U2.alloc (.cells #[.bool yes] 4) = X := ⟨_, rfl⟩
  rw [hU3] at z3 RU RV RB RG VS VQ VG VY PP
  try rw [hU3]
  clear A hU3
  have A := below_alloc1 U3 (.cells #[.int .i64 0, .slice none 0 0, .slice none 0 0, .int .i64 0] 25)
  replace RU := hid (RU.out.keep A)
  replace RV := hid (RV.out.keep A)
  replace RB := hid (RB.out.keep A)
  replace RG := hid (RG.out.keep A)
  replace VS := hid (VS.out.keep A)
  replace VQ := hid (VQ.out.keep A)
  replace VG := hid (VG.out.keep A)
  replace VY := hid (VY.out.keep A)
  replace PP := hid (PP.out.trans (A.mono PP.out.size))
  have VR := hid (vb_new U3 [.int .i64 0, .slice none 0 0, .slice none 0 0, .int .i64 0] 25)
  have z4 : (U3.alloc (.cells #[.int .i64 0, .slice none 0 0, .slice none 0 0, .int .i64 0] 25)).heap.size = w.heap.size + 5 := by simp [z3]
  rw [z3] at VR
  obtain ⟨U4, hU4⟩ : ∃ X, U3.alloc (.cells #[.int .i64 0, .slice none 0 0, .slice none 0 0, .int .i64 0] 25) = X := ⟨_, rfl⟩
  rw [hU4] at z4 RU RV RB RG VS VQ VG VY VR PP
  try rw [hU4]
  clear A hU4
  obtain ⟨s0, s1, s2, s3⟩ := vb4 VS.out
  refine (vmOk_any pc 0 _ _ 4 8 xs ys _ RU.out RV.out).mono ?_
  rw [HC0.out]
  rintro e w1 ⟨rfl, bb⟩
  clear s0 s1 s2 s3
  replace RU := hid (RU.out.keep bb)
  replace RV := hid (RV.out.keep bb)
  replace RB := hid (RB.out.keep bb)
  replace RG := hid (RG.out.keep bb)
  replace VS := hid (VS.out.keep bb)
  replace VQ := hid (VQ.out.keep bb)
  replace VG := hid (VG.out.keep bb)
  replace VY := hid (VY.out.keep bb)
  replace VR := hid (VR.out.keep bb)
  replace PP := hid (PP.out.trans (bb.mono PP.out.size))
  clear bb
  obtain ⟨q0, q1, q2, q3, q4, q5⟩ := vb6 VQ.out
  go_wp2_with fail
  clear q0 q1 q2 q3 q4 q5
  refine (may_any k y (p : Int) (g : Int) (f : Int) ba bc bs _ RB.out).mono ?_
  rw [HC1.out]
  rintro e w2 ⟨rfl, bb⟩
  replace RU := hid (RU.out.keep bb)
  replace RV := hid (RV.out.keep bb)
  replace RB := hid (RB.out.keep bb)
  replace RG := hid (RG.out.keep bb)
  replace VS := hid (VS.out.keep bb)
  replace VQ := hid (VQ.out.keep bb)
  replace VG := hid (VG.out.keep bb)
  replace VY := hid (VY.out.keep bb)
  replace VR := hid (VR.out.keep bb)
  replace PP := hid (PP.out.trans (bb.mono PP.out.size))
  clear bb
  have g0 := vb1 VG.out
  go_wp2_with fail
  clear g0
  refine (implMsg_any _ got _ RG.out).mono ?_
  rw [HC2.out]
  rintro e w3 ⟨rfl, rfl⟩
  have HLB := hid (show ∀ w4 : World, Below w3.heap.size w3 w4 → w.heap.size + 4 < w4.heap.size from fun w4 h => Nat.lt_of_lt_of_le VR.out.2.2 h.size)
  go_upto_region 3 with fail
  refine wp_region ?_
  change wpOps _ _ _ [0, 1, 2, 3] _ _
  refine ops_load rfl rfl (ld_state VS.out) ?_
  refine ops_call rfl (fun xs w => by go_simp) rfl ?_
  refine (open_bod pc 0 xs ys _ _ _ LR.out LM.out RU.out RV.out).mono ?_
  rintro e w4 ⟨rfl, bb⟩
  replace HLB := hid (HLB.out w4 bb)
  replace RU := hid (RU.out.keep bb)
  replace RV := hid (RV.out.keep bb)
  replace RB := hid (RB.out.keep bb)
  replace RG := hid (RG.out.keep bb)
  replace VS := hid (VS.out.keep bb)
  replace VQ := hid (VQ.out.keep bb)
  replace VG := hid (VG.out.keep bb)
  replace VY := hid (VY.out.keep bb)
  replace VR := hid (VR.out.keep bb)
  replace PP := hid (PP.out.trans (bb.mono PP.out.size))
  clear bb
  clear RU RV RB VS
  refine ⟨_, rfl, ?_⟩
  have ZA := hid (show ∀ (a : Act) (T2 : TypeId) (p2 : String) (af : Array Edge), (execOp a.eval ⟨some 9, .alloc 75, T2, p2, af, none⟩).run Try.prog w4 = .ok (.value (.pointer (some ⟨w4.heap.size, 0, none⟩))) (w4.alloc (.cells z20.toArray 75)) from fun a T2 p2 af => by unfold z20; go_simp)
  refine ops_val rfl (ZA.out _ _ _ _) ?_
  have A := below_alloc1 w4 (.cells z20.toArray 75)
  have VB0 := vb_new w4 z20 75
  obtain ⟨b, hb⟩ : ∃ b, w4.heap.size = b := ⟨_, rfl⟩
  replace RG := hid (RG.out.keep A)
  replace VQ := hid (VQ.out.keep A)
  replace VG := hid (VG.out.keep A)
  replace VY := hid (VY.out.keep A)
  replace VR := hid (VR.out.keep A)
  replace PP := hid (PP.out.trans (A.mono PP.out.size))
  clear A
  rw [hb] at VB0 HLB ⊢
  obtain ⟨w5, hw5⟩ : ∃ X, w4.alloc (.cells z20.toArray 75) = X := ⟨_, rfl⟩
  rw [hw5] at RG VQ VG VY VR PP VB0 ⊢
  clear hw5 hb ZA
  refine ops_store (v := .agg (bvs pc 0 xs ys z6).toArray) rfl rfl rfl (st_body VB0 rfl (by rw [bvs_len, LR.out, LM.out]; rfl) (one_bvs one_z6)) ?_
  have HB := hid (show Bod (w5.setCells b 0 (bvs pc 0 xs ys z6)) b pc 0 xs ys z6 from ⟨LR.out, LM.out, vb_store VB0 (by rw [bvs_len, LR.out, LM.out]; rfl)⟩)
  have CC := chg_setCellsL b (bvs pc 0 xs ys z6) 0 w5
  replace VQ := hid (VQ.out.chg CC (fun e => by have e : _ = b := e; have := HLB.out; omega))
  replace VG := hid (VG.out.chg CC (fun e => by have e : _ = b := e; have := HLB.out; omega))
  replace VY := hid (VY.out.chg CC (fun e => by have e : _ = b := e; have := HLB.out; omega))
  replace VR := hid (VR.out.chg CC (fun e => by have e : _ = b := e; have := HLB.out; omega))
  replace RG := hid (rd_chg RG.out CC (fun hl j hj e => by have e : j = b := e; have := HGO.out hl j hj; have := HLB.out; omega))
  replace PP := hid (below_chg PP.out CC PP.out.size (fun j hj => by have hj : j = b := hj; have := HLB.out; omega))
  obtain ⟨w6, hw6⟩ : ∃ X, w5.setCells b 0 (bvs pc 0 xs ys z6) = X := ⟨_, rfl⟩
  rw [hw6] at HB PP RG VQ VG VY VR ⊢
  clear hw6 CC VB0
  first | change Exit.then _ _ _ _ _ | change Exit.inBlock _ _ _ _ _
  simp only [List.setIfInBounds_toArray, List.set_cons_zero, List.set_cons_succ]
  have c13 := HB.out.halt
  obtain ⟨q0, q1, q2, q3, q4, q5⟩ := vb6 VQ.out
  go_upto_region 13 with fail
  refine wp_region ?_
  change wpOps _ _ _ [0, 1, 2] _ _
  refine ops_load rfl rfl (ld_body HB.out.vb (HB.out.l20 rfl)) ?_
  refine ops_call rfl (fun xs w => by go_simp) rfl ?_
  refine (state_bod pc (0) 0 0 0 0 0 none 0 0 (xs) (ys) _ HB.out.lr HB.out.lm).mono ?_
  rintro e w8 ⟨u8, v8, rfl, o1, o2, ap, b8⟩
  obtain ⟨ua, uc, rfl, _⟩ := ownI_form o1
  obtain ⟨va, vc, rfl, _⟩ := ownI_form o2
  refine ⟨_, rfl, ?_⟩
  refine ops_store rfl rfl rfl (st_state (VR.out.keep b8) _ _ _ _ _ _ _ _) ?_
  obtain ⟨e1, e2, e3, e4⟩ := give_end (pc := pc) (H := (0)) (w := w) (B := w.heap.size + 4) (by omega) PP.out VR.out o1 o2 ap b8
  have AP := hid ap
  have E1 := hid e1
  have E2 := hid e2
  have E3 := hid e3
  have E4 := hid e4
  obtain ⟨w9, hw9⟩ : ∃ X, st4 w8 (w.heap.size + 4) (.int .i64 pc) (.slice ua 4 uc) (.slice va 8 vc) (.int .i64 ((0))) = X := ⟨_, rfl⟩
  rw [hw9] at E1 E2 E3 E4 ⊢
  clear hw9 o1 o2 ap b8 e1 e2 e3 e4
  first | change Exit.then _ _ _ _ _ | change Exit.inBlock _ _ _ _ _
  simp only [List.setIfInBounds_toArray, List.set_cons_zero, List.set_cons_succ]
  go_wp2_with fail
  refine bodyPost_ret (resGive _ rfl E1.out) rfl ?_
  exact ⟨_, _, rfl, E2.out, E3.out, AP.out, E4.out⟩
set_option maxHeartbeats 16000000 in
theorem give_no (pc ht k y : Int) (p g f : Nat) (ba : Option Addr) (bc : Nat) (bs : List Int) (gv : Value) (got : List Int) (u v : Value) (xs ys : List Int) (w : World) (hu : RdI 1 w u 4 xs) (hv : RdI 1 w v 8 ys) (hb : Rd w (.slice ba bs.length bc) bs) (hgv : Rd w gv got) (hg : g < 4) (hf : f < 4) (hp : p ≤ 255) (h0 : ht = 0) (h1 : k = 2) (hok : gvB pc 4 xs 8 ys ht k y bs.length (p : Int) (g : Int) (f : Int) got = true) :
    Calls Try.prog 21 #[.agg #[.int .i64 pc, u, v, .int .i64 ht], .agg #[.int .i64 k, .int .i64 y, .slice ba bs.length bc, .int .i64 (p : Int), .int .i64 (g : Int), .int .i64 (f : Int)], gv, .bool false] w fun e w' => GivePost true pc (0) (xs.set g 0) (ys) w e w' := by
  simp only [gvB, Bool.and_eq_true] at hok
  have HC0 := hid hok.1
  have HC1 := hid hok.2.1
  have HC2 := hid hok.2.2
  have LR := hid (show xs.length = 4 from by have := hu.1; omega)
  have LM := hid (show ys.length = 8 from by have := hv.1; omega)
  have RU := hid hu
  have RV := hid hv
  have RB := hid hb
  have RG := hid hgv
  obtain ⟨_, _, a1, c1, rfl, _⟩ := hu
  obtain ⟨_, _, a2, c2, rfl, _⟩ := hv
  obtain ⟨_, _, ga, gc, rfl, _⟩ := hgv
  have HGO := hid (rd_old RG.out)
  clear hb hok
  subst h0
  subst h1
  have LR2 := hid (show (xs.set g 0).length = 4 by simpa using LR.out)
  have LM2 := LM
  go_enter Try.func21, Try.ntmps21
  go_wp2_with fail
  have PP := hid (Below.refl w.heap.size w)
  have A := below_alloc1 w (.cells #[.int .i64 pc, .slice a1 4 c1, .slice a2 8 c2, .int .i64 0] 25)
  replace RU := hid (RU.out.keep A)
  replace RV := hid (RV.out.keep A)
  replace RB := hid (RB.out.keep A)
  replace RG := hid (RG.out.keep A)
  replace PP := hid (PP.out.trans (A.mono PP.out.size))
  have VS := hid (vb_new w [.int .i64 pc, .slice a1 4 c1, .slice a2 8 c2, .int .i64 0] 25)
  have z0 : (w.alloc (.cells #[.int .i64 pc, .slice a1 4 c1, .slice a2 8 c2, .int .i64 0] 25)).heap.size = w.heap.size + 1 := by simp
  obtain ⟨U0, hU0⟩ : ∃ X, w.alloc (.cells #[.int .i64 pc, .slice a1 4 c1, .slice a2 8 c2, .int .i64 0] 25) = X := ⟨_, rfl⟩
  rw [hU0] at z0 RU RV RB RG VS PP
  try rw [hU0]
  clear A hU0
  have A := below_alloc1 U0 (.cells #[.int .i64 2, .int .i64 y, .slice ba bs.length bc, .int .i64 (p : Int), .int .i64 (g : Int), .int .i64 (f : Int)] 30)
  replace RU := hid (RU.out.keep A)
  replace RV := hid (RV.out.keep A)
  replace RB := hid (RB.out.keep A)
  replace RG := hid (RG.out.keep A)
  replace VS := hid (VS.out.keep A)
  replace PP := hid (PP.out.trans (A.mono PP.out.size))
  have VQ := hid (vb_new U0 [.int .i64 2, .int .i64 y, .slice ba bs.length bc, .int .i64 (p : Int), .int .i64 (g : Int), .int .i64 (f : Int)] 30)
  have z1 : (U0.alloc (.cells #[.int .i64 2, .int .i64 y, .slice ba bs.length bc, .int .i64 (p : Int), .int .i64 (g : Int), .int .i64 (f : Int)] 30)).heap.size = w.heap.size + 2 := by simp [z0]
  rw [z0] at VQ
  obtain ⟨U1, hU1⟩ : ∃ X, U0.alloc (.cells #[.int .i64 2, .int .i64 y, .slice ba bs.length bc, .int .i64 (p : Int), .int .i64 (g : Int), .int .i64 (f : Int)] 30) = X := ⟨_, rfl⟩
  rw [hU1] at z1 RU RV RB RG VS VQ PP
  try rw [hU1]
  clear A hU1
  have A := below_alloc1 U1 (.cells #[.slice ga got.length gc] 22)
  replace RU := hid (RU.out.keep A)
  replace RV := hid (RV.out.keep A)
  replace RB := hid (RB.out.keep A)
  replace RG := hid (RG.out.keep A)
  replace VS := hid (VS.out.keep A)
  replace VQ := hid (VQ.out.keep A)
  replace PP := hid (PP.out.trans (A.mono PP.out.size))
  have VG := hid (vb_new U1 [.slice ga got.length gc] 22)
  have z2 : (U1.alloc (.cells #[.slice ga got.length gc] 22)).heap.size = w.heap.size + 3 := by simp [z1]
  rw [z1] at VG
  obtain ⟨U2, hU2⟩ : ∃ X, U1.alloc (.cells #[.slice ga got.length gc] 22) = X := ⟨_, rfl⟩
  rw [hU2] at z2 RU RV RB RG VS VQ VG PP
  try rw [hU2]
  clear A hU2
  have A := below_alloc1 U2 (.cells #[.bool false] 4)
  replace RU := hid (RU.out.keep A)
  replace RV := hid (RV.out.keep A)
  replace RB := hid (RB.out.keep A)
  replace RG := hid (RG.out.keep A)
  replace VS := hid (VS.out.keep A)
  replace VQ := hid (VQ.out.keep A)
  replace VG := hid (VG.out.keep A)
  replace PP := hid (PP.out.trans (A.mono PP.out.size))
  have VY := hid (vb_new U2 [.bool false] 4)
  have z3 : (U2.alloc (.cells #[.bool false] 4)).heap.size = w.heap.size + 4 := by simp [z2]
  rw [z2] at VY
  obtain ⟨U3, hU3⟩ : ∃ X, U2.alloc (.cells #[.bool false] 4) = X := ⟨_, rfl⟩
  rw [hU3] at z3 RU RV RB RG VS VQ VG VY PP
  try rw [hU3]
  clear A hU3
  have A := below_alloc1 U3 (.cells #[.int .i64 0, .slice none 0 0, .slice none 0 0, .int .i64 0] 25)
  replace RU := hid (RU.out.keep A)
  replace RV := hid (RV.out.keep A)
  replace RB := hid (RB.out.keep A)
  replace RG := hid (RG.out.keep A)
  replace VS := hid (VS.out.keep A)
  replace VQ := hid (VQ.out.keep A)
  replace VG := hid (VG.out.keep A)
  replace VY := hid (VY.out.keep A)
  replace PP := hid (PP.out.trans (A.mono PP.out.size))
  have VR := hid (vb_new U3 [.int .i64 0, .slice none 0 0, .slice none 0 0, .int .i64 0] 25)
  have z4 : (U3.alloc (.cells #[.int .i64 0, .slice none 0 0, .slice none 0 0, .int .i64 0] 25)).heap.size = w.heap.size + 5 := by simp [z3]
  rw [z3] at VR
  obtain ⟨U4, hU4⟩ : ∃ X, U3.alloc (.cells #[.int .i64 0, .slice none 0 0, .slice none 0 0, .int .i64 0] 25) = X := ⟨_, rfl⟩
  rw [hU4] at z4 RU RV RB RG VS VQ VG VY VR PP
  try rw [hU4]
  clear A hU4
  obtain ⟨s0, s1, s2, s3⟩ := vb4 VS.out
  refine (vmOk_any pc 0 _ _ 4 8 xs ys _ RU.out RV.out).mono ?_
  rw [HC0.out]
  rintro e w1 ⟨rfl, bb⟩
  clear s0 s1 s2 s3
  replace RU := hid (RU.out.keep bb)
  replace RV := hid (RV.out.keep bb)
  replace RB := hid (RB.out.keep bb)
  replace RG := hid (RG.out.keep bb)
  replace VS := hid (VS.out.keep bb)
  replace VQ := hid (VQ.out.keep bb)
  replace VG := hid (VG.out.keep bb)
  replace VY := hid (VY.out.keep bb)
  replace VR := hid (VR.out.keep bb)
  replace PP := hid (PP.out.trans (bb.mono PP.out.size))
  clear bb
  obtain ⟨q0, q1, q2, q3, q4, q5⟩ := vb6 VQ.out
  go_wp2_with fail
  clear q0 q1 q2 q3 q4 q5
  refine (may_any 2 y (p : Int) (g : Int) (f : Int) ba bc bs _ RB.out).mono ?_
  rw [HC1.out]
  rintro e w2 ⟨rfl, bb⟩
  replace RU := hid (RU.out.keep bb)
  replace RV := hid (RV.out.keep bb)
  replace RB := hid (RB.out.keep bb)
  replace RG := hid (RG.out.keep bb)
  replace VS := hid (VS.out.keep bb)
  replace VQ := hid (VQ.out.keep bb)
  replace VG := hid (VG.out.keep bb)
  replace VY := hid (VY.out.keep bb)
  replace VR := hid (VR.out.keep bb)
  replace PP := hid (PP.out.trans (bb.mono PP.out.size))
  clear bb
  have g0 := vb1 VG.out
  go_wp2_with fail
  clear g0
  refine (implMsg_any _ got _ RG.out).mono ?_
  rw [HC2.out]
  rintro e w3 ⟨rfl, rfl⟩
  have HLB := hid (show ∀ w4 : World, Below w3.heap.size w3 w4 → w.heap.size + 4 < w4.heap.size from fun w4 h => Nat.lt_of_lt_of_le VR.out.2.2 h.size)
  go_upto_region 3 with fail
  refine wp_region ?_
  change wpOps _ _ _ [0, 1, 2, 3] _ _
  refine ops_load rfl rfl (ld_state VS.out) ?_
  refine ops_call rfl (fun xs w => by go_simp) rfl ?_
  refine (open_bod pc 0 xs ys _ _ _ LR.out LM.out RU.out RV.out).mono ?_
  rintro e w4 ⟨rfl, bb⟩
  replace HLB := hid (HLB.out w4 bb)
  replace RU := hid (RU.out.keep bb)
  replace RV := hid (RV.out.keep bb)
  replace RB := hid (RB.out.keep bb)
  replace RG := hid (RG.out.keep bb)
  replace VS := hid (VS.out.keep bb)
  replace VQ := hid (VQ.out.keep bb)
  replace VG := hid (VG.out.keep bb)
  replace VY := hid (VY.out.keep bb)
  replace VR := hid (VR.out.keep bb)
  replace PP := hid (PP.out.trans (bb.mono PP.out.size))
  clear bb
  clear RU RV RB VS
  refine ⟨_, rfl, ?_⟩
  have ZA := hid (show ∀ (a : Act) (T2 : TypeId) (p2 : String) (af : Array Edge), (execOp a.eval ⟨some 9, .alloc 75, T2, p2, af, none⟩).run Try.prog w4 = .ok (.value (.pointer (some ⟨w4.heap.size, 0, none⟩))) (w4.alloc (.cells z20.toArray 75)) from fun a T2 p2 af => by unfold z20; go_simp)
  refine ops_val rfl (ZA.out _ _ _ _) ?_
  have A := below_alloc1 w4 (.cells z20.toArray 75)
  have VB0 := vb_new w4 z20 75
  obtain ⟨b, hb⟩ : ∃ b, w4.heap.size = b := ⟨_, rfl⟩
  replace RG := hid (RG.out.keep A)
  replace VQ := hid (VQ.out.keep A)
  replace VG := hid (VG.out.keep A)
  replace VY := hid (VY.out.keep A)
  replace VR := hid (VR.out.keep A)
  replace PP := hid (PP.out.trans (A.mono PP.out.size))
  clear A
  rw [hb] at VB0 HLB ⊢
  obtain ⟨w5, hw5⟩ : ∃ X, w4.alloc (.cells z20.toArray 75) = X := ⟨_, rfl⟩
  rw [hw5] at RG VQ VG VY VR PP VB0 ⊢
  clear hw5 hb ZA
  refine ops_store (v := .agg (bvs pc 0 xs ys z6).toArray) rfl rfl rfl (st_body VB0 rfl (by rw [bvs_len, LR.out, LM.out]; rfl) (one_bvs one_z6)) ?_
  have HB := hid (show Bod (w5.setCells b 0 (bvs pc 0 xs ys z6)) b pc 0 xs ys z6 from ⟨LR.out, LM.out, vb_store VB0 (by rw [bvs_len, LR.out, LM.out]; rfl)⟩)
  have CC := chg_setCellsL b (bvs pc 0 xs ys z6) 0 w5
  replace VQ := hid (VQ.out.chg CC (fun e => by have e : _ = b := e; have := HLB.out; omega))
  replace VG := hid (VG.out.chg CC (fun e => by have e : _ = b := e; have := HLB.out; omega))
  replace VY := hid (VY.out.chg CC (fun e => by have e : _ = b := e; have := HLB.out; omega))
  replace VR := hid (VR.out.chg CC (fun e => by have e : _ = b := e; have := HLB.out; omega))
  replace RG := hid (rd_chg RG.out CC (fun hl j hj e => by have e : j = b := e; have := HGO.out hl j hj; have := HLB.out; omega))
  replace PP := hid (below_chg PP.out CC PP.out.size (fun j hj => by have hj : j = b := hj; have := HLB.out; omega))
  obtain ⟨w6, hw6⟩ : ∃ X, w5.setCells b 0 (bvs pc 0 xs ys z6) = X := ⟨_, rfl⟩
  rw [hw6] at HB PP RG VQ VG VY VR ⊢
  clear hw6 CC VB0
  first | change Exit.then _ _ _ _ _ | change Exit.inBlock _ _ _ _ _
  simp only [List.setIfInBounds_toArray, List.set_cons_zero, List.set_cons_succ]
  have c13 := HB.out.halt
  obtain ⟨q0, q1, q2, q3, q4, q5⟩ := vb6 VQ.out
  go_upto_region 10 with fail
  clear c13 q0 q1 q2 q3 q4 q5
  refine wp_region ?_
  change wpOps _ _ _ [0, 1, 2, 3] _ _
  refine ops_load rfl rfl (ld_body HB.out.vb (HB.out.l20 rfl)) ?_
  refine ops_mkfunc (l := [.tmp 5, .tmp 6, .tmp 7]) (vs := [.pointer (some ⟨w.heap.size + 1, 0, none⟩), .pointer (some ⟨w.heap.size + 1 + 1, 0, none⟩), .pointer (some ⟨w.heap.size + 1 + 2, 0, none⟩)]) rfl rfl ?_
  refine ops_call rfl (fun xs w => by go_simp) rfl ?_
  have HD : Does 67 #[.pointer (some ⟨w.heap.size + 1, 0, none⟩), .pointer (some ⟨w.heap.size + 1 + 1, 0, none⟩), .pointer (some ⟨w.heap.size + 1 + 2, 0, none⟩)] (w6.heap.size + 1) w6 pc 0 xs ys z6 (.returned (.tuple #[])) pc 0 (xs.set g 0) (ys) z6 := fun w1 hb1 hz1 hbod => clos_no 2 y pc 0 p g f ba bs bc ga gc got xs ys z6 (w6.heap.size + 1) (w.heap.size + 1) w1 hg hf hbod (VQ.out.keep hb1) (VG.out.keep hb1) (VY.out.keep hb1)
  refine (tried_ok 67 #[.pointer (some ⟨w.heap.size + 1, 0, none⟩), .pointer (some ⟨w.heap.size + 1 + 1, 0, none⟩), .pointer (some ⟨w.heap.size + 1 + 2, 0, none⟩)] (fun xs w => by go_simp) pc 0 pc 0 xs ys (xs.set g 0) (ys) z6 z6 w6 LR.out LM.out rfl rfl (one_bvs one_z6) (one_bvs one_z6) HD).mono ?_
  rintro e w7 ⟨rfl, b7⟩
  replace HB := hid (HB.out.keep b7)
  replace RG := hid (RG.out.keep b7)
  replace VQ := hid (VQ.out.keep b7)
  replace VG := hid (VG.out.keep b7)
  replace VY := hid (VY.out.keep b7)
  replace VR := hid (VR.out.keep b7)
  replace PP := hid (PP.out.trans (b7.mono PP.out.size))
  clear b7
  clear HD
  refine ⟨_, rfl, ?_⟩
  refine ops_store rfl rfl rfl (st_body HB.out.vb (HB.out.l20 rfl) (by rw [bvs_len, LR2.out, LM2.out]; rfl) (one_bvs one_z6)) ?_
  replace HB := hid (show Bod (w7.setCells b 0 (bvs pc 0 (xs.set g 0) (ys) z6)) b pc 0 (xs.set g 0) (ys) z6 from ⟨LR2.out, LM2.out, vb_store HB.out.vb (by rw [HB.out.l20 rfl, bvs_len, LR2.out, LM2.out]; rfl)⟩)
  have CC := chg_setCellsL b (bvs pc 0 (xs.set g 0) (ys) z6) 0 w7
  replace VQ := hid (VQ.out.chg CC (fun e => by have e : _ = b := e; have := HLB.out; omega))
  replace VG := hid (VG.out.chg CC (fun e => by have e : _ = b := e; have := HLB.out; omega))
  replace VY := hid (VY.out.chg CC (fun e => by have e : _ = b := e; have := HLB.out; omega))
  replace VR := hid (VR.out.chg CC (fun e => by have e : _ = b := e; have := HLB.out; omega))
  replace RG := hid (rd_chg RG.out CC (fun hl j hj e => by have e : j = b := e; have := HGO.out hl j hj; have := HLB.out; omega))
  replace PP := hid (below_chg PP.out CC PP.out.size (fun j hj => by have hj : j = b := hj; have := HLB.out; omega))
  obtain ⟨wa, hwa⟩ : ∃ X, w7.setCells b 0 (bvs pc 0 (xs.set g 0) (ys) z6) = X := ⟨_, rfl⟩
  rw [hwa] at HB PP RG VQ VG VY VR ⊢
  clear hwa CC
  first | change Exit.then _ _ _ _ _ | change Exit.inBlock _ _ _ _ _
  simp only [List.setIfInBounds_toArray, List.set_cons_zero, List.set_cons_succ]
  go_upto_region 13 with fail
  refine wp_region ?_
  change wpOps _ _ _ [0, 1, 2] _ _
  refine ops_load rfl rfl (ld_body HB.out.vb (HB.out.l20 rfl)) ?_
  refine ops_call rfl (fun xs w => by go_simp) rfl ?_
  refine (state_bod pc (0) 0 0 0 0 0 none 0 0 (xs.set g 0) (ys) _ HB.out.lr HB.out.lm).mono ?_
  rintro e w8 ⟨u8, v8, rfl, o1, o2, ap, b8⟩
  obtain ⟨ua, uc, rfl, _⟩ := ownI_form o1
  obtain ⟨va, vc, rfl, _⟩ := ownI_form o2
  refine ⟨_, rfl, ?_⟩
  refine ops_store rfl rfl rfl (st_state (VR.out.keep b8) _ _ _ _ _ _ _ _) ?_
  obtain ⟨e1, e2, e3, e4⟩ := give_end (pc := pc) (H := (0)) (w := w) (B := w.heap.size + 4) (by omega) PP.out VR.out o1 o2 ap b8
  have AP := hid ap
  have E1 := hid e1
  have E2 := hid e2
  have E3 := hid e3
  have E4 := hid e4
  obtain ⟨w9, hw9⟩ : ∃ X, st4 w8 (w.heap.size + 4) (.int .i64 pc) (.slice ua 4 uc) (.slice va 8 vc) (.int .i64 ((0))) = X := ⟨_, rfl⟩
  rw [hw9] at E1 E2 E3 E4 ⊢
  clear hw9 o1 o2 ap b8 e1 e2 e3 e4
  first | change Exit.then _ _ _ _ _ | change Exit.inBlock _ _ _ _ _
  simp only [List.setIfInBounds_toArray, List.set_cons_zero, List.set_cons_succ]
  go_wp2_with fail
  refine bodyPost_ret (resGive _ rfl E1.out) rfl ?_
  exact ⟨_, _, rfl, E2.out, E3.out, AP.out, E4.out⟩
set_option maxHeartbeats 16000000 in
theorem give_yes (pc ht k y : Int) (p g f : Nat) (ba : Option Addr) (bc : Nat) (bs : List Int) (gv : Value) (got : List Int) (u v : Value) (xs ys : List Int) (w : World) (hu : RdI 1 w u 4 xs) (hv : RdI 1 w v 8 ys) (hb : Rd w (.slice ba bs.length bc) bs) (hgv : Rd w gv got) (hg : g < 4) (hf : f < 4) (hp : p ≤ 255) (h0 : ht = 0) (h1 : k = 2) (hl : p + got.length ≤ 8) (hok : gvB pc 4 xs 8 ys ht k y bs.length (p : Int) (g : Int) (f : Int) got = true) :
    Calls Try.prog 21 #[.agg #[.int .i64 pc, u, v, .int .i64 ht], .agg #[.int .i64 k, .int .i64 y, .slice ba bs.length bc, .int .i64 (p : Int), .int .i64 (g : Int), .int .i64 (f : Int)], gv, .bool true] w fun e w' => GivePost true pc (0) (xs.set g ((got.length : Int) + 1)) (layI ys p got got.length) w e w' := by
  simp only [gvB, Bool.and_eq_true] at hok
  have HC0 := hid hok.1
  have HC1 := hid hok.2.1
  have HC2 := hid hok.2.2
  have LR := hid (show xs.length = 4 from by have := hu.1; omega)
  have LM := hid (show ys.length = 8 from by have := hv.1; omega)
  have RU := hid hu
  have RV := hid hv
  have RB := hid hb
  have RG := hid hgv
  obtain ⟨_, _, a1, c1, rfl, _⟩ := hu
  obtain ⟨_, _, a2, c2, rfl, _⟩ := hv
  obtain ⟨_, _, ga, gc, rfl, _⟩ := hgv
  have HGO := hid (rd_old RG.out)
  clear hb hok
  subst h0
  subst h1
  have LR2 := hid (show (xs.set g ((got.length : Int) + 1)).length = 4 by simpa using LR.out)
  have LM2 := hid (show (layI ys p got got.length).length = 8 by rw [layI_len]; exact LM.out)
  go_enter Try.func21, Try.ntmps21
  go_wp2_with fail
  have PP := hid (Below.refl w.heap.size w)
  have A := below_alloc1 w (.cells #[.int .i64 pc, .slice a1 4 c1, .slice a2 8 c2, .int .i64 0] 25)
  replace RU := hid (RU.out.keep A)
  replace RV := hid (RV.out.keep A)
  replace RB := hid (RB.out.keep A)
  replace RG := hid (RG.out.keep A)
  replace PP := hid (PP.out.trans (A.mono PP.out.size))
  have VS := hid (vb_new w [.int .i64 pc, .slice a1 4 c1, .slice a2 8 c2, .int .i64 0] 25)
  have z0 : (w.alloc (.cells #[.int .i64 pc, .slice a1 4 c1, .slice a2 8 c2, .int .i64 0] 25)).heap.size = w.heap.size + 1 := by simp
  obtain ⟨U0, hU0⟩ : ∃ X, w.alloc (.cells #[.int .i64 pc, .slice a1 4 c1, .slice a2 8 c2, .int .i64 0] 25) = X := ⟨_, rfl⟩
  rw [hU0] at z0 RU RV RB RG VS PP
  try rw [hU0]
  clear A hU0
  have A := below_alloc1 U0 (.cells #[.int .i64 2, .int .i64 y, .slice ba bs.length bc, .int .i64 (p : Int), .int .i64 (g : Int), .int .i64 (f : Int)] 30)
  replace RU := hid (RU.out.keep A)
  replace RV := hid (RV.out.keep A)
  replace RB := hid (RB.out.keep A)
  replace RG := hid (RG.out.keep A)
  replace VS := hid (VS.out.keep A)
  replace PP := hid (PP.out.trans (A.mono PP.out.size))
  have VQ := hid (vb_new U0 [.int .i64 2, .int .i64 y, .slice ba bs.length bc, .int .i64 (p : Int), .int .i64 (g : Int), .int .i64 (f : Int)] 30)
  have z1 : (U0.alloc (.cells #[.int .i64 2, .int .i64 y, .slice ba bs.length bc, .int .i64 (p : Int), .int .i64 (g : Int), .int .i64 (f : Int)] 30)).heap.size = w.heap.size + 2 := by simp [z0]
  rw [z0] at VQ
  obtain ⟨U1, hU1⟩ : ∃ X, U0.alloc (.cells #[.int .i64 2, .int .i64 y, .slice ba bs.length bc, .int .i64 (p : Int), .int .i64 (g : Int), .int .i64 (f : Int)] 30) = X := ⟨_, rfl⟩
  rw [hU1] at z1 RU RV RB RG VS VQ PP
  try rw [hU1]
  clear A hU1
  have A := below_alloc1 U1 (.cells #[.slice ga got.length gc] 22)
  replace RU := hid (RU.out.keep A)
  replace RV := hid (RV.out.keep A)
  replace RB := hid (RB.out.keep A)
  replace RG := hid (RG.out.keep A)
  replace VS := hid (VS.out.keep A)
  replace VQ := hid (VQ.out.keep A)
  replace PP := hid (PP.out.trans (A.mono PP.out.size))
  have VG := hid (vb_new U1 [.slice ga got.length gc] 22)
  have z2 : (U1.alloc (.cells #[.slice ga got.length gc] 22)).heap.size = w.heap.size + 3 := by simp [z1]
  rw [z1] at VG
  obtain ⟨U2, hU2⟩ : ∃ X, U1.alloc (.cells #[.slice ga got.length gc] 22) = X := ⟨_, rfl⟩
  rw [hU2] at z2 RU RV RB RG VS VQ VG PP
  try rw [hU2]
  clear A hU2
  have A := below_alloc1 U2 (.cells #[.bool true] 4)
  replace RU := hid (RU.out.keep A)
  replace RV := hid (RV.out.keep A)
  replace RB := hid (RB.out.keep A)
  replace RG := hid (RG.out.keep A)
  replace VS := hid (VS.out.keep A)
  replace VQ := hid (VQ.out.keep A)
  replace VG := hid (VG.out.keep A)
  replace PP := hid (PP.out.trans (A.mono PP.out.size))
  have VY := hid (vb_new U2 [.bool true] 4)
  have z3 : (U2.alloc (.cells #[.bool true] 4)).heap.size = w.heap.size + 4 := by simp [z2]
  rw [z2] at VY
  obtain ⟨U3, hU3⟩ : ∃ X, U2.alloc (.cells #[.bool true] 4) = X := ⟨_, rfl⟩
  rw [hU3] at z3 RU RV RB RG VS VQ VG VY PP
  try rw [hU3]
  clear A hU3
  have A := below_alloc1 U3 (.cells #[.int .i64 0, .slice none 0 0, .slice none 0 0, .int .i64 0] 25)
  replace RU := hid (RU.out.keep A)
  replace RV := hid (RV.out.keep A)
  replace RB := hid (RB.out.keep A)
  replace RG := hid (RG.out.keep A)
  replace VS := hid (VS.out.keep A)
  replace VQ := hid (VQ.out.keep A)
  replace VG := hid (VG.out.keep A)
  replace VY := hid (VY.out.keep A)
  replace PP := hid (PP.out.trans (A.mono PP.out.size))
  have VR := hid (vb_new U3 [.int .i64 0, .slice none 0 0, .slice none 0 0, .int .i64 0] 25)
  have z4 : (U3.alloc (.cells #[.int .i64 0, .slice none 0 0, .slice none 0 0, .int .i64 0] 25)).heap.size = w.heap.size + 5 := by simp [z3]
  rw [z3] at VR
  obtain ⟨U4, hU4⟩ : ∃ X, U3.alloc (.cells #[.int .i64 0, .slice none 0 0, .slice none 0 0, .int .i64 0] 25) = X := ⟨_, rfl⟩
  rw [hU4] at z4 RU RV RB RG VS VQ VG VY VR PP
  try rw [hU4]
  clear A hU4
  obtain ⟨s0, s1, s2, s3⟩ := vb4 VS.out
  refine (vmOk_any pc 0 _ _ 4 8 xs ys _ RU.out RV.out).mono ?_
  rw [HC0.out]
  rintro e w1 ⟨rfl, bb⟩
  clear s0 s1 s2 s3
  replace RU := hid (RU.out.keep bb)
  replace RV := hid (RV.out.keep bb)
  replace RB := hid (RB.out.keep bb)
  replace RG := hid (RG.out.keep bb)
  replace VS := hid (VS.out.keep bb)
  replace VQ := hid (VQ.out.keep bb)
  replace VG := hid (VG.out.keep bb)
  replace VY := hid (VY.out.keep bb)
  replace VR := hid (VR.out.keep bb)
  replace PP := hid (PP.out.trans (bb.mono PP.out.size))
  clear bb
  obtain ⟨q0, q1, q2, q3, q4, q5⟩ := vb6 VQ.out
  go_wp2_with fail
  clear q0 q1 q2 q3 q4 q5
  refine (may_any 2 y (p : Int) (g : Int) (f : Int) ba bc bs _ RB.out).mono ?_
  rw [HC1.out]
  rintro e w2 ⟨rfl, bb⟩
  replace RU := hid (RU.out.keep bb)
  replace RV := hid (RV.out.keep bb)
  replace RB := hid (RB.out.keep bb)
  replace RG := hid (RG.out.keep bb)
  replace VS := hid (VS.out.keep bb)
  replace VQ := hid (VQ.out.keep bb)
  replace VG := hid (VG.out.keep bb)
  replace VY := hid (VY.out.keep bb)
  replace VR := hid (VR.out.keep bb)
  replace PP := hid (PP.out.trans (bb.mono PP.out.size))
  clear bb
  have g0 := vb1 VG.out
  go_wp2_with fail
  clear g0
  refine (implMsg_any _ got _ RG.out).mono ?_
  rw [HC2.out]
  rintro e w3 ⟨rfl, rfl⟩
  have HLB := hid (show ∀ w4 : World, Below w3.heap.size w3 w4 → w.heap.size + 4 < w4.heap.size from fun w4 h => Nat.lt_of_lt_of_le VR.out.2.2 h.size)
  go_upto_region 3 with fail
  refine wp_region ?_
  change wpOps _ _ _ [0, 1, 2, 3] _ _
  refine ops_load rfl rfl (ld_state VS.out) ?_
  refine ops_call rfl (fun xs w => by go_simp) rfl ?_
  refine (open_bod pc 0 xs ys _ _ _ LR.out LM.out RU.out RV.out).mono ?_
  rintro e w4 ⟨rfl, bb⟩
  replace HLB := hid (HLB.out w4 bb)
  replace RU := hid (RU.out.keep bb)
  replace RV := hid (RV.out.keep bb)
  replace RB := hid (RB.out.keep bb)
  replace RG := hid (RG.out.keep bb)
  replace VS := hid (VS.out.keep bb)
  replace VQ := hid (VQ.out.keep bb)
  replace VG := hid (VG.out.keep bb)
  replace VY := hid (VY.out.keep bb)
  replace VR := hid (VR.out.keep bb)
  replace PP := hid (PP.out.trans (bb.mono PP.out.size))
  clear bb
  clear RU RV RB VS
  refine ⟨_, rfl, ?_⟩
  have ZA := hid (show ∀ (a : Act) (T2 : TypeId) (p2 : String) (af : Array Edge), (execOp a.eval ⟨some 9, .alloc 75, T2, p2, af, none⟩).run Try.prog w4 = .ok (.value (.pointer (some ⟨w4.heap.size, 0, none⟩))) (w4.alloc (.cells z20.toArray 75)) from fun a T2 p2 af => by unfold z20; go_simp)
  refine ops_val rfl (ZA.out _ _ _ _) ?_
  have A := below_alloc1 w4 (.cells z20.toArray 75)
  have VB0 := vb_new w4 z20 75
  obtain ⟨b, hb⟩ : ∃ b, w4.heap.size = b := ⟨_, rfl⟩
  replace RG := hid (RG.out.keep A)
  replace VQ := hid (VQ.out.keep A)
  replace VG := hid (VG.out.keep A)
  replace VY := hid (VY.out.keep A)
  replace VR := hid (VR.out.keep A)
  replace PP := hid (PP.out.trans (A.mono PP.out.size))
  clear A
  rw [hb] at VB0 HLB ⊢
  obtain ⟨w5, hw5⟩ : ∃ X, w4.alloc (.cells z20.toArray 75) = X := ⟨_, rfl⟩
  rw [hw5] at RG VQ VG VY VR PP VB0 ⊢
  clear hw5 hb ZA
  refine ops_store (v := .agg (bvs pc 0 xs ys z6).toArray) rfl rfl rfl (st_body VB0 rfl (by rw [bvs_len, LR.out, LM.out]; rfl) (one_bvs one_z6)) ?_
  have HB := hid (show Bod (w5.setCells b 0 (bvs pc 0 xs ys z6)) b pc 0 xs ys z6 from ⟨LR.out, LM.out, vb_store VB0 (by rw [bvs_len, LR.out, LM.out]; rfl)⟩)
  have CC := chg_setCellsL b (bvs pc 0 xs ys z6) 0 w5
  replace VQ := hid (VQ.out.chg CC (fun e => by have e : _ = b := e; have := HLB.out; omega))
  replace VG := hid (VG.out.chg CC (fun e => by have e : _ = b := e; have := HLB.out; omega))
  replace VY := hid (VY.out.chg CC (fun e => by have e : _ = b := e; have := HLB.out; omega))
  replace VR := hid (VR.out.chg CC (fun e => by have e : _ = b := e; have := HLB.out; omega))
  replace RG := hid (rd_chg RG.out CC (fun hl j hj e => by have e : j = b := e; have := HGO.out hl j hj; have := HLB.out; omega))
  replace PP := hid (below_chg PP.out CC PP.out.size (fun j hj => by have hj : j = b := hj; have := HLB.out; omega))
  obtain ⟨w6, hw6⟩ : ∃ X, w5.setCells b 0 (bvs pc 0 xs ys z6) = X := ⟨_, rfl⟩
  rw [hw6] at HB PP RG VQ VG VY VR ⊢
  clear hw6 CC VB0
  first | change Exit.then _ _ _ _ _ | change Exit.inBlock _ _ _ _ _
  simp only [List.setIfInBounds_toArray, List.set_cons_zero, List.set_cons_succ]
  have c13 := HB.out.halt
  obtain ⟨q0, q1, q2, q3, q4, q5⟩ := vb6 VQ.out
  go_upto_region 10 with fail
  clear c13 q0 q1 q2 q3 q4 q5
  refine wp_region ?_
  change wpOps _ _ _ [0, 1, 2, 3] _ _
  refine ops_load rfl rfl (ld_body HB.out.vb (HB.out.l20 rfl)) ?_
  refine ops_mkfunc (l := [.tmp 5, .tmp 6, .tmp 7]) (vs := [.pointer (some ⟨w.heap.size + 1, 0, none⟩), .pointer (some ⟨w.heap.size + 1 + 1, 0, none⟩), .pointer (some ⟨w.heap.size + 1 + 2, 0, none⟩)]) rfl rfl ?_
  refine ops_call rfl (fun xs w => by go_simp) rfl ?_
  have HD : Does 67 #[.pointer (some ⟨w.heap.size + 1, 0, none⟩), .pointer (some ⟨w.heap.size + 1 + 1, 0, none⟩), .pointer (some ⟨w.heap.size + 1 + 2, 0, none⟩)] (w6.heap.size + 1) w6 pc 0 xs ys z6 (.returned (.tuple #[])) pc 0 (xs.set g ((got.length : Int) + 1)) (layI ys p got got.length) z6 := fun w1 hb1 hz1 hbod => clos_yes 2 y pc 0 p g f ba bs bc ga gc got xs ys z6 (w6.heap.size + 1) (w.heap.size + 1) w1 (RG.out.keep hb1) (fun hl0 j hj => by have := HGO.out hl0 j hj; have := PP.out.size; omega) hl hg hf hbod (VQ.out.keep hb1) (VG.out.keep hb1) (VY.out.keep hb1)
  refine (tried_ok 67 #[.pointer (some ⟨w.heap.size + 1, 0, none⟩), .pointer (some ⟨w.heap.size + 1 + 1, 0, none⟩), .pointer (some ⟨w.heap.size + 1 + 2, 0, none⟩)] (fun xs w => by go_simp) pc 0 pc 0 xs ys (xs.set g ((got.length : Int) + 1)) (layI ys p got got.length) z6 z6 w6 LR.out LM.out rfl rfl (one_bvs one_z6) (one_bvs one_z6) HD).mono ?_
  rintro e w7 ⟨rfl, b7⟩
  replace HB := hid (HB.out.keep b7)
  replace RG := hid (RG.out.keep b7)
  replace VQ := hid (VQ.out.keep b7)
  replace VG := hid (VG.out.keep b7)
  replace VY := hid (VY.out.keep b7)
  replace VR := hid (VR.out.keep b7)
  replace PP := hid (PP.out.trans (b7.mono PP.out.size))
  clear b7
  clear HD
  refine ⟨_, rfl, ?_⟩
  refine ops_store rfl rfl rfl (st_body HB.out.vb (HB.out.l20 rfl) (by rw [bvs_len, LR2.out, LM2.out]; rfl) (one_bvs one_z6)) ?_
  replace HB := hid (show Bod (w7.setCells b 0 (bvs pc 0 (xs.set g ((got.length : Int) + 1)) (layI ys p got got.length) z6)) b pc 0 (xs.set g ((got.length : Int) + 1)) (layI ys p got got.length) z6 from ⟨LR2.out, LM2.out, vb_store HB.out.vb (by rw [HB.out.l20 rfl, bvs_len, LR2.out, LM2.out]; rfl)⟩)
  have CC := chg_setCellsL b (bvs pc 0 (xs.set g ((got.length : Int) + 1)) (layI ys p got got.length) z6) 0 w7
  replace VQ := hid (VQ.out.chg CC (fun e => by have e : _ = b := e; have := HLB.out; omega))
  replace VG := hid (VG.out.chg CC (fun e => by have e : _ = b := e; have := HLB.out; omega))
  replace VY := hid (VY.out.chg CC (fun e => by have e : _ = b := e; have := HLB.out; omega))
  replace VR := hid (VR.out.chg CC (fun e => by have e : _ = b := e; have := HLB.out; omega))
  replace RG := hid (rd_chg RG.out CC (fun hl j hj e => by have e : j = b := e; have := HGO.out hl j hj; have := HLB.out; omega))
  replace PP := hid (below_chg PP.out CC PP.out.size (fun j hj => by have hj : j = b := hj; have := HLB.out; omega))
  obtain ⟨wa, hwa⟩ : ∃ X, w7.setCells b 0 (bvs pc 0 (xs.set g ((got.length : Int) + 1)) (layI ys p got got.length) z6) = X := ⟨_, rfl⟩
  rw [hwa] at HB PP RG VQ VG VY VR ⊢
  clear hwa CC
  first | change Exit.then _ _ _ _ _ | change Exit.inBlock _ _ _ _ _
  simp only [List.setIfInBounds_toArray, List.set_cons_zero, List.set_cons_succ]
  go_upto_region 13 with fail
  refine wp_region ?_
  change wpOps _ _ _ [0, 1, 2] _ _
  refine ops_load rfl rfl (ld_body HB.out.vb (HB.out.l20 rfl)) ?_
  refine ops_call rfl (fun xs w => by go_simp) rfl ?_
  refine (state_bod pc (0) 0 0 0 0 0 none 0 0 (xs.set g ((got.length : Int) + 1)) (layI ys p got got.length) _ HB.out.lr HB.out.lm).mono ?_
  rintro e w8 ⟨u8, v8, rfl, o1, o2, ap, b8⟩
  obtain ⟨ua, uc, rfl, _⟩ := ownI_form o1
  obtain ⟨va, vc, rfl, _⟩ := ownI_form o2
  refine ⟨_, rfl, ?_⟩
  refine ops_store rfl rfl rfl (st_state (VR.out.keep b8) _ _ _ _ _ _ _ _) ?_
  obtain ⟨e1, e2, e3, e4⟩ := give_end (pc := pc) (H := (0)) (w := w) (B := w.heap.size + 4) (by omega) PP.out VR.out o1 o2 ap b8
  have AP := hid ap
  have E1 := hid e1
  have E2 := hid e2
  have E3 := hid e3
  have E4 := hid e4
  obtain ⟨w9, hw9⟩ : ∃ X, st4 w8 (w.heap.size + 4) (.int .i64 pc) (.slice ua 4 uc) (.slice va 8 vc) (.int .i64 ((0))) = X := ⟨_, rfl⟩
  rw [hw9] at E1 E2 E3 E4 ⊢
  clear hw9 o1 o2 ap b8 e1 e2 e3 e4
  first | change Exit.then _ _ _ _ _ | change Exit.inBlock _ _ _ _ _
  simp only [List.setIfInBounds_toArray, List.set_cons_zero, List.set_cons_succ]
  go_wp2_with fail
  refine bodyPost_ret (resGive _ rfl E1.out) rfl ?_
  exact ⟨_, _, rfl, E2.out, E3.out, AP.out, E4.out⟩
set_option maxHeartbeats 16000000 in
theorem give_fall (pc ht k y : Int) (p g f : Nat) (ba : Option Addr) (bc : Nat) (bs : List Int) (gv : Value) (got : List Int) (u v : Value) (xs ys : List Int) (w : World) (hu : RdI 1 w u 4 xs) (hv : RdI 1 w v 8 ys) (hb : Rd w (.slice ba bs.length bc) bs) (hgv : Rd w gv got) (hg : g < 4) (hf : f < 4) (hp : p ≤ 255) (h0 : ht = 0) (h1 : k = 2) (hl : 8 < p + got.length) (hok : gvB pc 4 xs 8 ys ht k y bs.length (p : Int) (g : Int) (f : Int) got = true) :
    Calls Try.prog 21 #[.agg #[.int .i64 pc, u, v, .int .i64 ht], .agg #[.int .i64 k, .int .i64 y, .slice ba bs.length bc, .int .i64 (p : Int), .int .i64 (g : Int), .int .i64 (f : Int)], gv, .bool true] w fun e w' => GivePost true pc (2) (xs) (ys) w e w' := by
  simp only [gvB, Bool.and_eq_true] at hok
  have HC0 := hid hok.1
  have HC1 := hid hok.2.1
  have HC2 := hid hok.2.2
  have LR := hid (show xs.length = 4 from by have := hu.1; omega)
  have LM := hid (show ys.length = 8 from by have := hv.1; omega)
  have RU := hid hu
  have RV := hid hv
  have RB := hid hb
  have RG := hid hgv
  obtain ⟨_, _, a1, c1, rfl, _⟩ := hu
  obtain ⟨_, _, a2, c2, rfl, _⟩ := hv
  obtain ⟨_, _, ga, gc, rfl, _⟩ := hgv
  have HGO := hid (rd_old RG.out)
  clear hb hok
  subst h0
  subst h1
  have LR2 := LR
  have LM2 := LM
  go_enter Try.func21, Try.ntmps21
  go_wp2_with fail
  have PP := hid (Below.refl w.heap.size w)
  have A := below_alloc1 w (.cells #[.int .i64 pc, .slice a1 4 c1, .slice a2 8 c2, .int .i64 0] 25)
  replace RU := hid (RU.out.keep A)
  replace RV := hid (RV.out.keep A)
  replace RB := hid (RB.out.keep A)
  replace RG := hid (RG.out.keep A)
  replace PP := hid (PP.out.trans (A.mono PP.out.size))
  have VS := hid (vb_new w [.int .i64 pc, .slice a1 4 c1, .slice a2 8 c2, .int .i64 0] 25)
  have z0 : (w.alloc (.cells #[.int .i64 pc, .slice a1 4 c1, .slice a2 8 c2, .int .i64 0] 25)).heap.size = w.heap.size + 1 := by simp
  obtain ⟨U0, hU0⟩ : ∃ X, w.alloc (.cells #[.int .i64 pc, .slice a1 4 c1, .slice a2 8 c2, .int .i64 0] 25) = X := ⟨_, rfl⟩
  rw [hU0] at z0 RU RV RB RG VS PP
  try rw [hU0]
  clear A hU0
  have A := below_alloc1 U0 (.cells #[.int .i64 2, .int .i64 y, .slice ba bs.length bc, .int .i64 (p : Int), .int .i64 (g : Int), .int .i64 (f : Int)] 30)
  replace RU := hid (RU.out.keep A)
  replace RV := hid (RV.out.keep A)
  replace RB := hid (RB.out.keep A)
  replace RG := hid (RG.out.keep A)
  replace VS := hid (VS.out.keep A)
  replace PP := hid (PP.out.trans (A.mono PP.out.size))
  have VQ := hid (vb_new U0 [.int .i64 2, .int .i64 y, .slice ba bs.length bc, .int .i64 (p : Int), .int .i64 (g : Int), .int .i64 (f : Int)] 30)
  have z1 : (U0.alloc (.cells #[.int .i64 2, .int .i64 y, .slice ba bs.length bc, .int .i64 (p : Int), .int .i64 (g : Int), .int .i64 (f : Int)] 30)).heap.size = w.heap.size + 2 := by simp [z0]
  rw [z0] at VQ
  obtain ⟨U1, hU1⟩ : ∃ X, U0.alloc (.cells #[.int .i64 2, .int .i64 y, .slice ba bs.length bc, .int .i64 (p : Int), .int .i64 (g : Int), .int .i64 (f : Int)] 30) = X := ⟨_, rfl⟩
  rw [hU1] at z1 RU RV RB RG VS VQ PP
  try rw [hU1]
  clear A hU1
  have A := below_alloc1 U1 (.cells #[.slice ga got.length gc] 22)
  replace RU := hid (RU.out.keep A)
  replace RV := hid (RV.out.keep A)
  replace RB := hid (RB.out.keep A)
  replace RG := hid (RG.out.keep A)
  replace VS := hid (VS.out.keep A)
  replace VQ := hid (VQ.out.keep A)
  replace PP := hid (PP.out.trans (A.mono PP.out.size))
  have VG := hid (vb_new U1 [.slice ga got.length gc] 22)
  have z2 : (U1.alloc (.cells #[.slice ga got.length gc] 22)).heap.size = w.heap.size + 3 := by simp [z1]
  rw [z1] at VG
  obtain ⟨U2, hU2⟩ : ∃ X, U1.alloc (.cells #[.slice ga got.length gc] 22) = X := ⟨_, rfl⟩
  rw [hU2] at z2 RU RV RB RG VS VQ VG PP
  try rw [hU2]
  clear A hU2
  have A := below_alloc1 U2 (.cells #[.bool true] 4)
  replace RU := hid (RU.out.keep A)
  replace RV := hid (RV.out.keep A)
  replace RB := hid (RB.out.keep A)
  replace RG := hid (RG.out.keep A)
  replace VS := hid (VS.out.keep A)
  replace VQ := hid (VQ.out.keep A)
  replace VG := hid (VG.out.keep A)
  replace PP := hid (PP.out.trans (A.mono PP.out.size))
  have VY := hid (vb_new U2 [.bool true] 4)
  have z3 : (U2.alloc (.cells #[.bool true] 4)).heap.size = w.heap.size + 4 := by simp [z2]
  rw [z2] at VY
  obtain ⟨U3, hU3⟩ : ∃ X, U2.alloc (.cells #[.bool true] 4) = X := ⟨_, rfl⟩
  rw [hU3] at z3 RU RV RB RG VS VQ VG VY PP
  try rw [hU3]
  clear A hU3
  have A := below_alloc1 U3 (.cells #[.int .i64 0, .slice none 0 0, .slice none 0 0, .int .i64 0] 25)
  replace RU := hid (RU.out.keep A)
  replace RV := hid (RV.out.keep A)
  replace RB := hid (RB.out.keep A)
  replace RG := hid (RG.out.keep A)
  replace VS := hid (VS.out.keep A)
  replace VQ := hid (VQ.out.keep A)
  replace VG := hid (VG.out.keep A)
  replace VY := hid (VY.out.keep A)
  replace PP := hid (PP.out.trans (A.mono PP.out.size))
  have VR := hid (vb_new U3 [.int .i64 0, .slice none 0 0, .slice none 0 0, .int .i64 0] 25)
  have z4 : (U3.alloc (.cells #[.int .i64 0, .slice none 0 0, .slice none 0 0, .int .i64 0] 25)).heap.size = w.heap.size + 5 := by simp [z3]
  rw [z3] at VR
  obtain ⟨U4, hU4⟩ : ∃ X, U3.alloc (.cells #[.int .i64 0, .slice none 0 0, .slice none 0 0, .int .i64 0] 25) = X := ⟨_, rfl⟩
  rw [hU4] at z4 RU RV RB RG VS VQ VG VY VR PP
  try rw [hU4]
  clear A hU4
  obtain ⟨s0, s1, s2, s3⟩ := vb4 VS.out
  refine (vmOk_any pc 0 _ _ 4 8 xs ys _ RU.out RV.out).mono ?_
  rw [HC0.out]
  rintro e w1 ⟨rfl, bb⟩
  clear s0 s1 s2 s3
  replace RU := hid (RU.out.keep bb)
  replace RV := hid (RV.out.keep bb)
  replace RB := hid (RB.out.keep bb)
  replace RG := hid (RG.out.keep bb)
  replace VS := hid (VS.out.keep bb)
  replace VQ := hid (VQ.out.keep bb)
  replace VG := hid (VG.out.keep bb)
  replace VY := hid (VY.out.keep bb)
  replace VR := hid (VR.out.keep bb)
  replace PP := hid (PP.out.trans (bb.mono PP.out.size))
  clear bb
  obtain ⟨q0, q1, q2, q3, q4, q5⟩ := vb6 VQ.out
  go_wp2_with fail
  clear q0 q1 q2 q3 q4 q5
  refine (may_any 2 y (p : Int) (g : Int) (f : Int) ba bc bs _ RB.out).mono ?_
  rw [HC1.out]
  rintro e w2 ⟨rfl, bb⟩
  replace RU := hid (RU.out.keep bb)
  replace RV := hid (RV.out.keep bb)
  replace RB := hid (RB.out.keep bb)
  replace RG := hid (RG.out.keep bb)
  replace VS := hid (VS.out.keep bb)
  replace VQ := hid (VQ.out.keep bb)
  replace VG := hid (VG.out.keep bb)
  replace VY := hid (VY.out.keep bb)
  replace VR := hid (VR.out.keep bb)
  replace PP := hid (PP.out.trans (bb.mono PP.out.size))
  clear bb
  have g0 := vb1 VG.out
  go_wp2_with fail
  clear g0
  refine (implMsg_any _ got _ RG.out).mono ?_
  rw [HC2.out]
  rintro e w3 ⟨rfl, rfl⟩
  have HLB := hid (show ∀ w4 : World, Below w3.heap.size w3 w4 → w.heap.size + 4 < w4.heap.size from fun w4 h => Nat.lt_of_lt_of_le VR.out.2.2 h.size)
  go_upto_region 3 with fail
  refine wp_region ?_
  change wpOps _ _ _ [0, 1, 2, 3] _ _
  refine ops_load rfl rfl (ld_state VS.out) ?_
  refine ops_call rfl (fun xs w => by go_simp) rfl ?_
  refine (open_bod pc 0 xs ys _ _ _ LR.out LM.out RU.out RV.out).mono ?_
  rintro e w4 ⟨rfl, bb⟩
  replace HLB := hid (HLB.out w4 bb)
  replace RU := hid (RU.out.keep bb)
  replace RV := hid (RV.out.keep bb)
  replace RB := hid (RB.out.keep bb)
  replace RG := hid (RG.out.keep bb)
  replace VS := hid (VS.out.keep bb)
  replace VQ := hid (VQ.out.keep bb)
  replace VG := hid (VG.out.keep bb)
  replace VY := hid (VY.out.keep bb)
  replace VR := hid (VR.out.keep bb)
  replace PP := hid (PP.out.trans (bb.mono PP.out.size))
  clear bb
  clear RU RV RB VS
  refine ⟨_, rfl, ?_⟩
  have ZA := hid (show ∀ (a : Act) (T2 : TypeId) (p2 : String) (af : Array Edge), (execOp a.eval ⟨some 9, .alloc 75, T2, p2, af, none⟩).run Try.prog w4 = .ok (.value (.pointer (some ⟨w4.heap.size, 0, none⟩))) (w4.alloc (.cells z20.toArray 75)) from fun a T2 p2 af => by unfold z20; go_simp)
  refine ops_val rfl (ZA.out _ _ _ _) ?_
  have A := below_alloc1 w4 (.cells z20.toArray 75)
  have VB0 := vb_new w4 z20 75
  obtain ⟨b, hb⟩ : ∃ b, w4.heap.size = b := ⟨_, rfl⟩
  replace RG := hid (RG.out.keep A)
  replace VQ := hid (VQ.out.keep A)
  replace VG := hid (VG.out.keep A)
  replace VY := hid (VY.out.keep A)
  replace VR := hid (VR.out.keep A)
  replace PP := hid (PP.out.trans (A.mono PP.out.size))
  clear A
  rw [hb] at VB0 HLB ⊢
  obtain ⟨w5, hw5⟩ : ∃ X, w4.alloc (.cells z20.toArray 75) = X := ⟨_, rfl⟩
  rw [hw5] at RG VQ VG VY VR PP VB0 ⊢
  clear hw5 hb ZA
  refine ops_store (v := .agg (bvs pc 0 xs ys z6).toArray) rfl rfl rfl (st_body VB0 rfl (by rw [bvs_len, LR.out, LM.out]; rfl) (one_bvs one_z6)) ?_
  have HB := hid (show Bod (w5.setCells b 0 (bvs pc 0 xs ys z6)) b pc 0 xs ys z6 from ⟨LR.out, LM.out, vb_store VB0 (by rw [bvs_len, LR.out, LM.out]; rfl)⟩)
  have CC := chg_setCellsL b (bvs pc 0 xs ys z6) 0 w5
  replace VQ := hid (VQ.out.chg CC (fun e => by have e : _ = b := e; have := HLB.out; omega))
  replace VG := hid (VG.out.chg CC (fun e => by have e : _ = b := e; have := HLB.out; omega))
  replace VY := hid (VY.out.chg CC (fun e => by have e : _ = b := e; have := HLB.out; omega))
  replace VR := hid (VR.out.chg CC (fun e => by have e : _ = b := e; have := HLB.out; omega))
  replace RG := hid (rd_chg RG.out CC (fun hl j hj e => by have e : j = b := e; have := HGO.out hl j hj; have := HLB.out; omega))
  replace PP := hid (below_chg PP.out CC PP.out.size (fun j hj => by have hj : j = b := hj; have := HLB.out; omega))
  obtain ⟨w6, hw6⟩ : ∃ X, w5.setCells b 0 (bvs pc 0 xs ys z6) = X := ⟨_, rfl⟩
  rw [hw6] at HB PP RG VQ VG VY VR ⊢
  clear hw6 CC VB0
  first | change Exit.then _ _ _ _ _ | change Exit.inBlock _ _ _ _ _
  simp only [List.setIfInBounds_toArray, List.set_cons_zero, List.set_cons_succ]
  have c13 := HB.out.halt
  obtain ⟨q0, q1, q2, q3, q4, q5⟩ := vb6 VQ.out
  go_upto_region 10 with fail
  clear c13 q0 q1 q2 q3 q4 q5
  refine wp_region ?_
  change wpOps _ _ _ [0, 1, 2, 3] _ _
  refine ops_load rfl rfl (ld_body HB.out.vb (HB.out.l20 rfl)) ?_
  refine ops_mkfunc (l := [.tmp 5, .tmp 6, .tmp 7]) (vs := [.pointer (some ⟨w.heap.size + 1, 0, none⟩), .pointer (some ⟨w.heap.size + 1 + 1, 0, none⟩), .pointer (some ⟨w.heap.size + 1 + 2, 0, none⟩)]) rfl rfl ?_
  refine ops_call rfl (fun xs w => by go_simp) rfl ?_
  have HD : Does 67 #[.pointer (some ⟨w.heap.size + 1, 0, none⟩), .pointer (some ⟨w.heap.size + 1 + 1, 0, none⟩), .pointer (some ⟨w.heap.size + 1 + 2, 0, none⟩)] (w6.heap.size + 1) w6 pc 0 xs ys z6 (.panicked [{ v := fellV, recovered := false }]) pc 0 (xs) (ys) z6 := fun w1 hb1 hz1 hbod => clos_fall 2 y pc 0 p g f ba bs bc ga gc got xs ys z6 (w6.heap.size + 1) (w.heap.size + 1) w1 (RG.out.keep hb1) hp hl hg hf hbod (VQ.out.keep hb1) (VG.out.keep hb1) (VY.out.keep hb1)
  refine (tried_fall 67 #[.pointer (some ⟨w.heap.size + 1, 0, none⟩), .pointer (some ⟨w.heap.size + 1 + 1, 0, none⟩), .pointer (some ⟨w.heap.size + 1 + 2, 0, none⟩)] (fun xs w => by go_simp) pc 0 pc 0 xs ys xs ys z6 z6 w6 LR.out LM.out rfl rfl (one_bvs one_z6) HD).mono ?_
  rintro e w7 ⟨rfl, b7⟩
  replace HB := hid (HB.out.keep b7)
  replace RG := hid (RG.out.keep b7)
  replace VQ := hid (VQ.out.keep b7)
  replace VG := hid (VG.out.keep b7)
  replace VY := hid (VY.out.keep b7)
  replace VR := hid (VR.out.keep b7)
  replace PP := hid (PP.out.trans (b7.mono PP.out.size))
  clear b7
  clear HD
  refine ⟨_, rfl, ?_⟩
  refine ops_store rfl rfl rfl (st_body HB.out.vb (HB.out.l20 rfl) (by rw [bvs_len, LR2.out, LM2.out]; rfl) (one_bvs one_z6)) ?_
  replace HB := hid (show Bod (w7.setCells b 0 (bvs pc 2 (xs) (ys) z6)) b pc 2 (xs) (ys) z6 from ⟨LR2.out, LM2.out, vb_store HB.out.vb (by rw [HB.out.l20 rfl, bvs_len, LR2.out, LM2.out]; rfl)⟩)
  have CC := chg_setCellsL b (bvs pc 2 (xs) (ys) z6) 0 w7
  replace VQ := hid (VQ.out.chg CC (fun e => by have e : _ = b := e; have := HLB.out; omega))
  replace VG := hid (VG.out.chg CC (fun e => by have e : _ = b := e; have := HLB.out; omega))
  replace VY := hid (VY.out.chg CC (fun e => by have e : _ = b := e; have := HLB.out; omega))
  replace VR := hid (VR.out.chg CC (fun e => by have e : _ = b := e; have := HLB.out; omega))
  replace RG := hid (rd_chg RG.out CC (fun hl j hj e => by have e : j = b := e; have := HGO.out hl j hj; have := HLB.out; omega))
  replace PP := hid (below_chg PP.out CC PP.out.size (fun j hj => by have hj : j = b := hj; have := HLB.out; omega))
  obtain ⟨wa, hwa⟩ : ∃ X, w7.setCells b 0 (bvs pc 2 (xs) (ys) z6) = X := ⟨_, rfl⟩
  rw [hwa] at HB PP RG VQ VG VY VR ⊢
  clear hwa CC
  first | change Exit.then _ _ _ _ _ | change Exit.inBlock _ _ _ _ _
  simp only [List.setIfInBounds_toArray, List.set_cons_zero, List.set_cons_succ]
  go_upto_region 13 with fail
  refine wp_region ?_
  change wpOps _ _ _ [0, 1, 2] _ _
  refine ops_load rfl rfl (ld_body HB.out.vb (HB.out.l20 rfl)) ?_
  refine ops_call rfl (fun xs w => by go_simp) rfl ?_
  refine (state_bod pc (2) 0 0 0 0 0 none 0 0 (xs) (ys) _ HB.out.lr HB.out.lm).mono ?_
  rintro e w8 ⟨u8, v8, rfl, o1, o2, ap, b8⟩
  obtain ⟨ua, uc, rfl, _⟩ := ownI_form o1
  obtain ⟨va, vc, rfl, _⟩ := ownI_form o2
  refine ⟨_, rfl, ?_⟩
  refine ops_store rfl rfl rfl (st_state (VR.out.keep b8) _ _ _ _ _ _ _ _) ?_
  obtain ⟨e1, e2, e3, e4⟩ := give_end (pc := pc) (H := (2)) (w := w) (B := w.heap.size + 4) (by omega) PP.out VR.out o1 o2 ap b8
  have AP := hid ap
  have E1 := hid e1
  have E2 := hid e2
  have E3 := hid e3
  have E4 := hid e4
  obtain ⟨w9, hw9⟩ : ∃ X, st4 w8 (w.heap.size + 4) (.int .i64 pc) (.slice ua 4 uc) (.slice va 8 vc) (.int .i64 ((2))) = X := ⟨_, rfl⟩
  rw [hw9] at E1 E2 E3 E4 ⊢
  clear hw9 o1 o2 ap b8 e1 e2 e3 e4
  first | change Exit.then _ _ _ _ _ | change Exit.inBlock _ _ _ _ _
  simp only [List.setIfInBounds_toArray, List.set_cons_zero, List.set_cons_succ]
  go_wp2_with fail
  refine bodyPost_ret (resGive _ rfl E1.out) rfl ?_
  exact ⟨_, _, rfl, E2.out, E3.out, AP.out, E4.out⟩
end Go.Proofs.Ytbpomeegpkdekaa
