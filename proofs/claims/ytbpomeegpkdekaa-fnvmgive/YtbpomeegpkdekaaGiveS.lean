/- VmGive: the contract of the specification's. Conditions: the lists read. -/
import Derived.Test.YtbpomeegpkdekaaGiveC
import Derived.Test.YtbpomeegpkdekaaGiveLay
namespace Go.Proofs.Ytbpomeegpkdekaa
open Go.ChangeShapes Go.WideShapes Go.ChangeAt Go.RowKit Go.Joins Go.Deep
set_option linter.unusedVariables false
set_option linter.unusedSimpArgs false
set_option maxRecDepth 4000
theorem resGiveS {W : World} {b : Nat} {x0 x1 x2 x3 : Value} (tmps : Array Value) (ht : tmps[8]?.getD undef = .pointer (some ⟨b, 0, none⟩)) (h : VB W b [x0, x1, x2, x3]) :
    (results Try.f24 tmps).run Try.prog W = .ok (.agg #[x0, x1, x2, x3]) W := by
  obtain ⟨h0, h1, h2, h3⟩ := vb4 h
  simp [results, Try.results24, go_sem, ht, h0, h1, h2, h3]
/-- the end: the state into the result's block -/
theorem give_end2 {w w8 : World} {B L : Nat} {pc H : Int} {R M : List Int} {u v : Value} {x0 x1 x2 x3 : Value} (hB : w.heap.size ≤ B) (hL : B < L) (hP : Below w.heap.size w w8) (hR : VB w8 B [x0, x1, x2, x3]) (o1 : OwnI 3 1 w8 L u 4 R) (o2 : OwnI 3 1 w8 L v 8 M) :
    VB (st4 w8 B (.int .i64 pc) u v (.int .i64 H)) B [.int .i64 pc, u, v, .int .i64 H] ∧ OwnI 3 1 (st4 w8 B (.int .i64 pc) u v (.int .i64 H)) w.heap.size u 4 R ∧ OwnI 3 1 (st4 w8 B (.int .i64 pc) u v (.int .i64 H)) w.heap.size v 8 M ∧ Below w.heap.size w (st4 w8 B (.int .i64 pc) u v (.int .i64 H)) := by
  have hC : Chg (fun j => j = B) w8 (st4 w8 B (.int .i64 pc) u v (.int .i64 H)) := vbchg4 (.int .i64 pc) u v (.int .i64 H) rfl
  refine ⟨vbset4 _ _ _ _ hR, (o1.chg hC (fun j hj e => by have e : j = B := e; have := (o1.blk j hj).1; omega)).low (by omega), (o2.chg hC (fun j hj e => by have e : j = B := e; have := (o2.blk j hj).1; omega)).low (by omega), below_chg hP hC hP.size (fun j hj => by have hj : j = B := hj; omega)⟩
set_option maxHeartbeats 16000000 in
theorem sgive_bad (pc ht k y t g f : Int) (ba : Option Addr) (bc : Nat) (bs : List Int) (gv : Value) (got : List Int) (yes : Bool) (u v : Value) (nr nm : Nat) (xs ys : List Int) (w : World) (hu : RdI 1 w u nr xs) (hv : RdI 1 w v nm ys) (hb : Rd w (.slice ba bs.length bc) bs) (hgv : Rd w gv got) (hok : gvB pc nr xs nm ys ht k y bs.length t g f got = false) :
    Calls Try.prog 24 #[.agg #[.int .i64 pc, u, v, .int .i64 ht], .agg #[.int .i64 k, .int .i64 y, .slice ba bs.length bc, .int .i64 t, .int .i64 g, .int .i64 f], gv, .bool yes] w fun e w' => GivePost (gvB pc nr xs nm ys ht k y bs.length t g f got) pc (gvH ht k t.toNat yes got) (gvR ht k t.toNat g.toNat f.toNat yes got xs) (gvM ht k t.toNat yes got ys) w e w' := by
  have HOK := hid hok
  have RU := hid hu
  have RV := hid hv
  have RB := hid hb
  have RG := hid hgv
  obtain ⟨_, _, a1, c1, rfl, _⟩ := hu
  obtain ⟨_, _, a2, c2, rfl, _⟩ := hv
  obtain ⟨_, _, ga, gc, rfl, _⟩ := hgv
  clear hb
  cases c0 : (vmB pc nr xs nm ys ht)
  · have HC0 := hid c0
    clear c0 hok
    go_enter Try.func24, Try.ntmps24
    go_wp2_with fail
    have PP := hid (Below.refl w.heap.size w)
    have A := below_alloc1 w (.cells #[.int .i64 pc, .slice a1 nr c1, .slice a2 nm c2, .int .i64 ht] 25)
    replace RU := hid (RU.out.keep A)
    replace RV := hid (RV.out.keep A)
    replace RB := hid (RB.out.keep A)
    replace RG := hid (RG.out.keep A)
    replace PP := hid (PP.out.trans (A.mono PP.out.size))
    have VS := hid (vb_new w [.int .i64 pc, .slice a1 nr c1, .slice a2 nm c2, .int .i64 ht] 25)
    have z0 : (w.alloc (.cells #[.int .i64 pc, .slice a1 nr c1, .slice a2 nm c2, .int .i64 ht] 25)).heap.size = w.heap.size + 1 := by simp
    obtain ⟨U0, hU0⟩ : ∃ X, w.alloc (.cells #[.int .i64 pc, .slice a1 nr c1, .slice a2 nm c2, .int .i64 ht] 25) = X := ⟨_, rfl⟩
    rw [hU0] at z0 RU RV RB RG VS PP
    try rw [hU0]
    clear A hU0
    have A := below_alloc1 U0 (.cells #[.int .i64 k, .int .i64 y, .slice ba bs.length bc, .int .i64 t, .int .i64 g, .int .i64 f] 30)
    replace RU := hid (RU.out.keep A)
    replace RV := hid (RV.out.keep A)
    replace RB := hid (RB.out.keep A)
    replace RG := hid (RG.out.keep A)
    replace VS := hid (VS.out.keep A)
    replace PP := hid (PP.out.trans (A.mono PP.out.size))
    have VQ := hid (vb_new U0 [.int .i64 k, .int .i64 y, .slice ba bs.length bc, .int .i64 t, .int .i64 g, .int .i64 f] 30)
    have z1 : (U0.alloc (.cells #[.int .i64 k, .int .i64 y, .slice ba bs.length bc, .int .i64 t, .int .i64 g, .int .i64 f] 30)).heap.size = w.heap.size + 2 := by simp [z0]
    rw [z0] at VQ
    obtain ⟨U1, hU1⟩ : ∃ X, U0.alloc (.cells #[.int .i64 k, .int .i64 y, .slice ba bs.length bc, .int .i64 t, .int .i64 g, .int .i64 f] 30) = X := ⟨_, rfl⟩
    rw [hU1] at z1 RU RV RB RG VS VQ PP
    try rw [hU1]
    clear A hU1
    have A := below_alloc1 U1 (.cells #[.int .i64 0, .slice none 0 0, .slice none 0 0, .int .i64 0] 25)
    replace RU := hid (RU.out.keep A)
    replace RV := hid (RV.out.keep A)
    replace RB := hid (RB.out.keep A)
    replace RG := hid (RG.out.keep A)
    replace VS := hid (VS.out.keep A)
    replace VQ := hid (VQ.out.keep A)
    replace PP := hid (PP.out.trans (A.mono PP.out.size))
    have VR := hid (vb_new U1 [.int .i64 0, .slice none 0 0, .slice none 0 0, .int .i64 0] 25)
    have z2 : (U1.alloc (.cells #[.int .i64 0, .slice none 0 0, .slice none 0 0, .int .i64 0] 25)).heap.size = w.heap.size + 3 := by simp [z1]
    rw [z1] at VR
    obtain ⟨U2, hU2⟩ : ∃ X, U1.alloc (.cells #[.int .i64 0, .slice none 0 0, .slice none 0 0, .int .i64 0] 25) = X := ⟨_, rfl⟩
    rw [hU2] at z2 RU RV RB RG VS VQ VR PP
    try rw [hU2]
    clear A hU2
    obtain ⟨s0, s1, s2, s3⟩ := vb4 VS.out
    refine (specVmOk_any pc ht _ _ nr nm xs ys _ RU.out RV.out).mono ?_
    rw [HC0.out]
    rintro e w1 ⟨rfl, bb⟩
    clear s0 s1 s2 s3
    replace RU := hid (RU.out.keep bb)
    replace RV := hid (RV.out.keep bb)
    replace RB := hid (RB.out.keep bb)
    replace RG := hid (RG.out.keep bb)
    replace VS := hid (VS.out.keep bb)
    replace VQ := hid (VQ.out.keep bb)
    replace VR := hid (VR.out.keep bb)
    replace PP := hid (PP.out.trans (bb.mono PP.out.size))
    clear bb
    obtain ⟨r0, r1, r2, r3⟩ := vb4 VR.out
    have fr := VR.out.2.1
    have HP := PP.out
    go_wp2_with fail
    have FV := vbset4 (.int .i64 0) (.slice none 0 0) (.slice none 0 0) (.int .i64 0) VR.out
    have FC := vbchg4 (S := fun j => j = w.heap.size + 2) (.int .i64 0) (.slice none 0 0) (.slice none 0 0) (.int .i64 0) (w := w1) (b := w.heap.size + 2) rfl
    refine bodyPost_ret (resGiveS _ rfl FV) rfl ?_
    rw [HOK.out]
    exact ⟨_, _, rfl, ownI_nil _, ownI_nil _, (fun j hj => by simp [Value.ownBlock] at hj), below_chg HP FC HP.size (fun j hj => by have hj : j = w.heap.size + 2 := hj; omega)⟩
  cases c1 : (askB k y bs.length t g f)
  · have HC0 := hid c0
    have HC1 := hid c1
    clear c0 c1 hok
    go_enter Try.func24, Try.ntmps24
    go_wp2_with fail
    have PP := hid (Below.refl w.heap.size w)
    have A := below_alloc1 w (.cells #[.int .i64 pc, .slice a1 nr c1, .slice a2 nm c2, .int .i64 ht] 25)
    replace RU := hid (RU.out.keep A)
    replace RV := hid (RV.out.keep A)
    replace RB := hid (RB.out.keep A)
    replace RG := hid (RG.out.keep A)
    replace PP := hid (PP.out.trans (A.mono PP.out.size))
    have VS := hid (vb_new w [.int .i64 pc, .slice a1 nr c1, .slice a2 nm c2, .int .i64 ht] 25)
    have z0 : (w.alloc (.cells #[.int .i64 pc, .slice a1 nr c1, .slice a2 nm c2, .int .i64 ht] 25)).heap.size = w.heap.size + 1 := by simp
    obtain ⟨U0, hU0⟩ : ∃ X, w.alloc (.cells #[.int .i64 pc, .slice a1 nr c1, .slice a2 nm c2, .int .i64 ht] 25) = X := ⟨_, rfl⟩
    rw [hU0] at z0 RU RV RB RG VS PP
    try rw [hU0]
    clear A hU0
    have A := below_alloc1 U0 (.cells #[.int .i64 k, .int .i64 y, .slice ba bs.length bc, .int .i64 t, .int .i64 g, .int .i64 f] 30)
    replace RU := hid (RU.out.keep A)
    replace RV := hid (RV.out.keep A)
    replace RB := hid (RB.out.keep A)
    replace RG := hid (RG.out.keep A)
    replace VS := hid (VS.out.keep A)
    replace PP := hid (PP.out.trans (A.mono PP.out.size))
    have VQ := hid (vb_new U0 [.int .i64 k, .int .i64 y, .slice ba bs.length bc, .int .i64 t, .int .i64 g, .int .i64 f] 30)
    have z1 : (U0.alloc (.cells #[.int .i64 k, .int .i64 y, .slice ba bs.length bc, .int .i64 t, .int .i64 g, .int .i64 f] 30)).heap.size = w.heap.size + 2 := by simp [z0]
    rw [z0] at VQ
    obtain ⟨U1, hU1⟩ : ∃ X, U0.alloc (.cells #[.int .i64 k, .int .i64 y, .slice ba bs.length bc, .int .i64 t, .int .i64 g, .int .i64 f] 30) = X := ⟨_, rfl⟩
    rw [hU1] at z1 RU RV RB RG VS VQ PP
    try rw [hU1]
    clear A hU1
    have A := below_alloc1 U1 (.cells #[.int .i64 0, .slice none 0 0, .slice none 0 0, .int .i64 0] 25)
    replace RU := hid (RU.out.keep A)
    replace RV := hid (RV.out.keep A)
    replace RB := hid (RB.out.keep A)
    replace RG := hid (RG.out.keep A)
    replace VS := hid (VS.out.keep A)
    replace VQ := hid (VQ.out.keep A)
    replace PP := hid (PP.out.trans (A.mono PP.out.size))
    have VR := hid (vb_new U1 [.int .i64 0, .slice none 0 0, .slice none 0 0, .int .i64 0] 25)
    have z2 : (U1.alloc (.cells #[.int .i64 0, .slice none 0 0, .slice none 0 0, .int .i64 0] 25)).heap.size = w.heap.size + 3 := by simp [z1]
    rw [z1] at VR
    obtain ⟨U2, hU2⟩ : ∃ X, U1.alloc (.cells #[.int .i64 0, .slice none 0 0, .slice none 0 0, .int .i64 0] 25) = X := ⟨_, rfl⟩
    rw [hU2] at z2 RU RV RB RG VS VQ VR PP
    try rw [hU2]
    clear A hU2
    obtain ⟨s0, s1, s2, s3⟩ := vb4 VS.out
    refine (specVmOk_any pc ht _ _ nr nm xs ys _ RU.out RV.out).mono ?_
    rw [HC0.out]
    rintro e w1 ⟨rfl, bb⟩
    clear s0 s1 s2 s3
    replace RU := hid (RU.out.keep bb)
    replace RV := hid (RV.out.keep bb)
    replace RB := hid (RB.out.keep bb)
    replace RG := hid (RG.out.keep bb)
    replace VS := hid (VS.out.keep bb)
    replace VQ := hid (VQ.out.keep bb)
    replace VR := hid (VR.out.keep bb)
    replace PP := hid (PP.out.trans (bb.mono PP.out.size))
    clear bb
    obtain ⟨q0, q1, q2, q3, q4, q5⟩ := vb6 VQ.out
    go_wp2_with fail
    clear q0 q1 q2 q3 q4 q5
    refine (askOk_any k y t g f ba bc bs _ RB.out).mono ?_
    rw [HC1.out]
    rintro e w2 ⟨rfl, bb⟩
    replace RU := hid (RU.out.keep bb)
    replace RV := hid (RV.out.keep bb)
    replace RB := hid (RB.out.keep bb)
    replace RG := hid (RG.out.keep bb)
    replace VS := hid (VS.out.keep bb)
    replace VQ := hid (VQ.out.keep bb)
    replace VR := hid (VR.out.keep bb)
    replace PP := hid (PP.out.trans (bb.mono PP.out.size))
    clear bb
    obtain ⟨r0, r1, r2, r3⟩ := vb4 VR.out
    have fr := VR.out.2.1
    have HP := PP.out
    go_wp2_with fail
    have FV := vbset4 (.int .i64 0) (.slice none 0 0) (.slice none 0 0) (.int .i64 0) VR.out
    have FC := vbchg4 (S := fun j => j = w.heap.size + 2) (.int .i64 0) (.slice none 0 0) (.slice none 0 0) (.int .i64 0) (w := w2) (b := w.heap.size + 2) rfl
    refine bodyPost_ret (resGiveS _ rfl FV) rfl ?_
    rw [HOK.out]
    exact ⟨_, _, rfl, ownI_nil _, ownI_nil _, (fun j hj => by simp [Value.ownBlock] at hj), below_chg HP FC HP.size (fun j hj => by have hj : j = w.heap.size + 2 := hj; omega)⟩
  cases c2 : (decide (got.length ≤ 8))
  · have HC0 := hid c0
    have HC1 := hid c1
    have HC2 := hid c2
    clear c0 c1 c2 hok
    go_enter Try.func24, Try.ntmps24
    go_wp2_with fail
    have PP := hid (Below.refl w.heap.size w)
    have A := below_alloc1 w (.cells #[.int .i64 pc, .slice a1 nr c1, .slice a2 nm c2, .int .i64 ht] 25)
    replace RU := hid (RU.out.keep A)
    replace RV := hid (RV.out.keep A)
    replace RB := hid (RB.out.keep A)
    replace RG := hid (RG.out.keep A)
    replace PP := hid (PP.out.trans (A.mono PP.out.size))
    have VS := hid (vb_new w [.int .i64 pc, .slice a1 nr c1, .slice a2 nm c2, .int .i64 ht] 25)
    have z0 : (w.alloc (.cells #[.int .i64 pc, .slice a1 nr c1, .slice a2 nm c2, .int .i64 ht] 25)).heap.size = w.heap.size + 1 := by simp
    obtain ⟨U0, hU0⟩ : ∃ X, w.alloc (.cells #[.int .i64 pc, .slice a1 nr c1, .slice a2 nm c2, .int .i64 ht] 25) = X := ⟨_, rfl⟩
    rw [hU0] at z0 RU RV RB RG VS PP
    try rw [hU0]
    clear A hU0
    have A := below_alloc1 U0 (.cells #[.int .i64 k, .int .i64 y, .slice ba bs.length bc, .int .i64 t, .int .i64 g, .int .i64 f] 30)
    replace RU := hid (RU.out.keep A)
    replace RV := hid (RV.out.keep A)
    replace RB := hid (RB.out.keep A)
    replace RG := hid (RG.out.keep A)
    replace VS := hid (VS.out.keep A)
    replace PP := hid (PP.out.trans (A.mono PP.out.size))
    have VQ := hid (vb_new U0 [.int .i64 k, .int .i64 y, .slice ba bs.length bc, .int .i64 t, .int .i64 g, .int .i64 f] 30)
    have z1 : (U0.alloc (.cells #[.int .i64 k, .int .i64 y, .slice ba bs.length bc, .int .i64 t, .int .i64 g, .int .i64 f] 30)).heap.size = w.heap.size + 2 := by simp [z0]
    rw [z0] at VQ
    obtain ⟨U1, hU1⟩ : ∃ X, U0.alloc (.cells #[.int .i64 k, .int .i64 y, .slice ba bs.length bc, .int .i64 t, .int .i64 g, .int .i64 f] 30) = X := ⟨_, rfl⟩
    rw [hU1] at z1 RU RV RB RG VS VQ PP
    try rw [hU1]
    clear A hU1
    have A := below_alloc1 U1 (.cells #[.int .i64 0, .slice none 0 0, .slice none 0 0, .int .i64 0] 25)
    replace RU := hid (RU.out.keep A)
    replace RV := hid (RV.out.keep A)
    replace RB := hid (RB.out.keep A)
    replace RG := hid (RG.out.keep A)
    replace VS := hid (VS.out.keep A)
    replace VQ := hid (VQ.out.keep A)
    replace PP := hid (PP.out.trans (A.mono PP.out.size))
    have VR := hid (vb_new U1 [.int .i64 0, .slice none 0 0, .slice none 0 0, .int .i64 0] 25)
    have z2 : (U1.alloc (.cells #[.int .i64 0, .slice none 0 0, .slice none 0 0, .int .i64 0] 25)).heap.size = w.heap.size + 3 := by simp [z1]
    rw [z1] at VR
    obtain ⟨U2, hU2⟩ : ∃ X, U1.alloc (.cells #[.int .i64 0, .slice none 0 0, .slice none 0 0, .int .i64 0] 25) = X := ⟨_, rfl⟩
    rw [hU2] at z2 RU RV RB RG VS VQ VR PP
    try rw [hU2]
    clear A hU2
    obtain ⟨s0, s1, s2, s3⟩ := vb4 VS.out
    refine (specVmOk_any pc ht _ _ nr nm xs ys _ RU.out RV.out).mono ?_
    rw [HC0.out]
    rintro e w1 ⟨rfl, bb⟩
    clear s0 s1 s2 s3
    replace RU := hid (RU.out.keep bb)
    replace RV := hid (RV.out.keep bb)
    replace RB := hid (RB.out.keep bb)
    replace RG := hid (RG.out.keep bb)
    replace VS := hid (VS.out.keep bb)
    replace VQ := hid (VQ.out.keep bb)
    replace VR := hid (VR.out.keep bb)
    replace PP := hid (PP.out.trans (bb.mono PP.out.size))
    clear bb
    obtain ⟨q0, q1, q2, q3, q4, q5⟩ := vb6 VQ.out
    go_wp2_with fail
    clear q0 q1 q2 q3 q4 q5
    refine (askOk_any k y t g f ba bc bs _ RB.out).mono ?_
    rw [HC1.out]
    rintro e w2 ⟨rfl, bb⟩
    replace RU := hid (RU.out.keep bb)
    replace RV := hid (RV.out.keep bb)
    replace RB := hid (RB.out.keep bb)
    replace RG := hid (RG.out.keep bb)
    replace VS := hid (VS.out.keep bb)
    replace VQ := hid (VQ.out.keep bb)
    replace VR := hid (VR.out.keep bb)
    replace PP := hid (PP.out.trans (bb.mono PP.out.size))
    clear bb
    go_wp2_with fail
    refine (specMsg_any _ got _ RG.out).mono ?_
    rw [HC2.out]
    rintro e w3 ⟨rfl, rfl⟩
    obtain ⟨r0, r1, r2, r3⟩ := vb4 VR.out
    have fr := VR.out.2.1
    have HP := PP.out
    go_wp2_with fail
    have FV := vbset4 (.int .i64 0) (.slice none 0 0) (.slice none 0 0) (.int .i64 0) VR.out
    have FC := vbchg4 (S := fun j => j = w.heap.size + 2) (.int .i64 0) (.slice none 0 0) (.slice none 0 0) (.int .i64 0) (w := w3) (b := w.heap.size + 2) rfl
    refine bodyPost_ret (resGiveS _ rfl FV) rfl ?_
    rw [HOK.out]
    exact ⟨_, _, rfl, ownI_nil _, ownI_nil _, (fun j hj => by simp [Value.ownBlock] at hj), below_chg HP FC HP.size (fun j hj => by have hj : j = w.heap.size + 2 := hj; omega)⟩
  simp [gvB, c0, c1] at hok
  simp at c2
  omega
set_option maxHeartbeats 16000000 in
theorem sgive_halted (pc ht k y : Int) (p g f : Nat) (ba : Option Addr) (bc : Nat) (bs : List Int) (gv : Value) (got : List Int) (yes : Bool) (u v : Value) (xs ys : List Int) (w : World) (hu : RdI 1 w u 4 xs) (hv : RdI 1 w v 8 ys) (hb : Rd w (.slice ba bs.length bc) bs) (hgv : Rd w gv got) (hg : g < 4) (hf : f < 4) (hp : p ≤ 255) (hh : ¬ ht = 0) (hok : gvB pc 4 xs 8 ys ht k y bs.length (p : Int) (g : Int) (f : Int) got = true) :
    Calls Try.prog 24 #[.agg #[.int .i64 pc, u, v, .int .i64 ht], .agg #[.int .i64 k, .int .i64 y, .slice ba bs.length bc, .int .i64 (p : Int), .int .i64 (g : Int), .int .i64 (f : Int)], gv, .bool yes] w fun e w' => GivePost true pc (ht) (xs) (ys) w e w' := by
  simp only [gvB, Bool.and_eq_true] at hok
  have HC0 := hid hok.1
  have HC1 := hid hok.2.1
  have HC2 := hid hok.2.2
  have LR := hid (show xs.length = 4 from by have := hu.1; omega)
  have LM := hid (show ys.length = 8 from by have := hv.1; omega)
  have RU := hid hu
  have RV := hid hv
  have RB := hid hb
  have RG := hid hgv
  obtain ⟨_, _, a1, c1, rfl, _⟩ := hu
  obtain ⟨_, _, a2, c2, rfl, _⟩ := hv
  obtain ⟨_, _, ga, gc, rfl, _⟩ := hgv
  have HGO := hid (rd_old RG.out)
  clear hb hok
  have dh : (ht != 0) = true := by simpa using hh
  go_enter Try.func24, Try.ntmps24
  go_wp2_with fail
  have PP := hid (Below.refl w.heap.size w)
  have A := below_alloc1 w (.cells #[.int .i64 pc, .slice a1 4 c1, .slice a2 8 c2, .int .i64 ht] 25)
  replace RU := hid (RU.out.keep A)
  replace RV := hid (RV.out.keep A)
  replace RB := hid (RB.out.keep A)
  replace RG := hid (RG.out.keep A)
  replace PP := hid (PP.out.trans (A.mono PP.out.size))
  have VS := hid (vb_new w [.int .i64 pc, .slice a1 4 c1, .slice a2 8 c2, .int .i64 ht] 25)
  have z0 : (w.alloc (.cells #[.int .i64 pc, .slice a1 4 c1, .slice a2 8 c2, .int .i64 ht] 25)).heap.size = w.heap.size + 1 := by simp
  obtain ⟨U0, hU0⟩ : ∃ X, w.alloc (.cells #[.int .i64 pc, .slice a1 4 c1, .slice a2 8 c2, .int .i64 ht] 25) = X := ⟨_, rfl⟩
  rw [hU0] at z0 RU RV RB RG VS PP
  try rw [hU0]
  clear A hU0
  have A := below_alloc1 U0 (.cells #[.int .i64 k, .int .i64 y, .slice ba bs.length bc, .int .i64 (p : Int), .int .i64 (g : Int), .int .i64 (f : Int)] 30)
  replace RU := hid (RU.out.keep A)
  replace RV := hid (RV.out.keep A)
  replace RB := hid (RB.out.keep A)
  replace RG := hid (RG.out.keep A)
  replace VS := hid (VS.out.keep A)
  replace PP := hid (PP.out.trans (A.mono PP.out.size))
  have VQ := hid (vb_new U0 [.int .i64 k, .int .i64 y, .slice ba bs.length bc, .int .i64 (p : Int), .int .i64 (g : Int), .int .i64 (f : Int)] 30)
  have z1 : (U0.alloc (.cells #[.int .i64 k, .int .i64 y, .slice ba bs.length bc, .int .i64 (p : Int), .int .i64 (g : Int), .int .i64 (f : Int)] 30)).heap.size = w.heap.size + 2 := by simp [z0]
  rw [z0] at VQ
  obtain ⟨U1, hU1⟩ : ∃ X, U0.alloc (.cells #[.int .i64 k, .int .i64 y, .slice ba bs.length bc, .int .i64 (p : Int), .int .i64 (g : Int), .int .i64 (f : Int)] 30) = X := ⟨_, rfl⟩
  rw [hU1] at z1 RU RV RB RG VS VQ PP
  try rw [hU1]
  clear A hU1
  have A := below_alloc1 U1 (.cells #[.int .i64 0, .slice none 0 0, .slice none 0 0, .int .i64 0] 25)
  replace RU := hid (RU.out.keep A)
  replace RV := hid (RV.out.keep A)
  replace RB := hid (RB.out.keep A)
  replace RG := hid (RG.out.keep A)
  replace VS := hid (VS.out.keep A)
  replace VQ := hid (VQ.out.keep A)
  replace PP := hid (PP.out.trans (A.mono PP.out.size))
  have VR := hid (vb_new U1 [.int .i64 0, .slice none 0 0, .slice none 0 0, .int .i64 0] 25)
  have z2 : (U1.alloc (.cells #[.int .i64 0, .slice none 0 0, .slice none 0 0, .int .i64 0] 25)).heap.size = w.heap.size + 3 := by simp [z1]
  rw [z1] at VR
  obtain ⟨U2, hU2⟩ : ∃ X, U1.alloc (.cells #[.int .i64 0, .slice none 0 0, .slice none 0 0, .int .i64 0] 25) = X := ⟨_, rfl⟩
  rw [hU2] at z2 RU RV RB RG VS VQ VR PP
  try rw [hU2]
  clear A hU2
  obtain ⟨s0, s1, s2, s3⟩ := vb4 VS.out
  refine (specVmOk_any pc ht _ _ 4 8 xs ys _ RU.out RV.out).mono ?_
  rw [HC0.out]
  rintro e w1 ⟨rfl, bb⟩
  clear s0 s1 s2 s3
  replace RU := hid (RU.out.keep bb)
  replace RV := hid (RV.out.keep bb)
  replace RB := hid (RB.out.keep bb)
  replace RG := hid (RG.out.keep bb)
  replace VS := hid (VS.out.keep bb)
  replace VQ := hid (VQ.out.keep bb)
  replace VR := hid (VR.out.keep bb)
  replace PP := hid (PP.out.trans (bb.mono PP.out.size))
  clear bb
  obtain ⟨q0, q1, q2, q3, q4, q5⟩ := vb6 VQ.out
  go_wp2_with fail
  clear q0 q1 q2 q3 q4 q5
  refine (askOk_any k y (p : Int) (g : Int) (f : Int) ba bc bs _ RB.out).mono ?_
  rw [HC1.out]
  rintro e w2 ⟨rfl, bb⟩
  replace RU := hid (RU.out.keep bb)
  replace RV := hid (RV.out.keep bb)
  replace RB := hid (RB.out.keep bb)
  replace RG := hid (RG.out.keep bb)
  replace VS := hid (VS.out.keep bb)
  replace VQ := hid (VQ.out.keep bb)
  replace VR := hid (VR.out.keep bb)
  replace PP := hid (PP.out.trans (bb.mono PP.out.size))
  clear bb
  go_wp2_with fail
  refine (specMsg_any _ got _ RG.out).mono ?_
  rw [HC2.out]
  rintro e w3 ⟨rfl, rfl⟩
  obtain ⟨s0, s1, s2, s3⟩ := vb4 VS.out
  go_wp2_with fail
  clear s0 s1 s2 s3
  refine (l6Copy_any pc ht xs ys _ _ _ RU.out RV.out).mono ?_
  rintro e w4 ⟨u1, v1, rfl, o1, o2, ap, bb⟩
  clear RU RV RB VS
  have HLB := hid (VR.out.2.2)
  replace RG := hid (RG.out.keep bb)
  replace VQ := hid (VQ.out.keep bb)
  replace VR := hid (VR.out.keep bb)
  replace PP := hid (PP.out.trans (bb.mono PP.out.size))
  clear bb
  obtain ⟨L, hL⟩ : ∃ L, w3.heap.size = L := ⟨_, rfl⟩
  rw [hL] at o1 o2 HLB
  obtain ⟨x1, d1, rfl, e1⟩ := ownI_form o1
  obtain ⟨x2, d2, rfl, e2⟩ := ownI_form o2
  obtain ⟨gu, rfl⟩ : ∃ gu, x1 = some ⟨gu, 0, none⟩ := by rcases e1 with e1 | e1; omega; exact e1
  obtain ⟨gv, rfl⟩ : ∃ gv, x2 = some ⟨gv, 0, none⟩ := by rcases e2 with e2 | e2; omega; exact e2
  have HGU := hid (o1.blk gu rfl)
  have HGV := hid (o2.blk gv rfl)
  have AP := hid (show ¬ gv = gu from fun e => by subst e; exact ap gv rfl rfl)
  have O1 := hid o1
  have O2 := hid o2
  clear o1 o2 ap e1 e2
  obtain ⟨b, hb⟩ : ∃ b, w4.heap.size = b := ⟨_, rfl⟩
  have VX := hid (show VB (w4.alloc (.cells #[.int .i64 pc, .slice (some ⟨gu, 0, none⟩) 4 d1, .slice (some ⟨gv, 0, none⟩) 8 d2, .int .i64 ht] 25)) b _ from by rw [← hb]; exact vb_new w4 [.int .i64 pc, .slice (some ⟨gu, 0, none⟩) 4 d1, .slice (some ⟨gv, 0, none⟩) 8 d2, .int .i64 ht] 25)
  have A := below_alloc1 w4 (.cells #[.int .i64 pc, .slice (some ⟨gu, 0, none⟩) 4 d1, .slice (some ⟨gv, 0, none⟩) 8 d2, .int .i64 ht] 25)
  replace RG := hid (RG.out.keep A)
  replace VQ := hid (VQ.out.keep A)
  replace VR := hid (VR.out.keep A)
  replace O1 := hid (O1.out.keep A)
  replace O2 := hid (O2.out.keep A)
  replace PP := hid (PP.out.trans (A.mono PP.out.size))
  clear A
  have HBX := hid (show L ≤ b ∧ gu < b ∧ gv < b by have := HGU.out; have := HGV.out; omega)
  have O1LO := hid (show L ≤ gu ∧ L ≤ gv from ⟨HGU.out.1, HGV.out.1⟩)
  go_upto_if 29 with fail
  obtain ⟨w5, hw5⟩ : ∃ X, w4.alloc (.cells #[.int .i64 pc, .slice (some ⟨gu, 0, none⟩) 4 d1, .slice (some ⟨gv, 0, none⟩) 8 d2, .int .i64 ht] 25) = X := ⟨_, rfl⟩
  rw [hw5] at RG VQ VR O1 O2 VX PP
  try rw [hw5]
  try rw [hb]
  clear hw5 hb HGU HGV
  obtain ⟨xx0, xx1, xx2, xx3⟩ := vb4 VX.out
  obtain ⟨r0, r1, r2, r3⟩ := vb4 VR.out
  have fr := VR.out.2.1
  obtain ⟨e1, e2, e3, e4⟩ := give_end2 (pc := pc) (H := ht) (w := w) (B := w.heap.size + 2) (by omega) HLB.out PP.out VR.out O1.out O2.out
  have E1 := hid e1
  have E2 := hid e2
  have E3 := hid e3
  have E4 := hid e4
  have AQ := hid AP.out
  clear e1 e2 e3 e4 VR O1 O2 VX
  go_wp2_with fail
  refine bodyPost_ret (resGiveS _ rfl E1.out) rfl ?_
  exact ⟨_, _, rfl, E2.out, E3.out, (fun j hj e => by simp [Value.ownBlock] at hj e; have := AQ.out; omega), E4.out⟩
set_option maxHeartbeats 16000000 in
theorem sgive_sends1 (pc ht k y : Int) (p g f : Nat) (ba : Option Addr) (bc : Nat) (bs : List Int) (gv : Value) (got : List Int) (u v : Value) (xs ys : List Int) (w : World) (hu : RdI 1 w u 4 xs) (hv : RdI 1 w v 8 ys) (hb : Rd w (.slice ba bs.length bc) bs) (hgv : Rd w gv got) (hg : g < 4) (hf : f < 4) (hp : p ≤ 255) (h0 : ht = 0) (h1 : k = 1) (hok : gvB pc 4 xs 8 ys ht k y bs.length (p : Int) (g : Int) (f : Int) got = true) :
    Calls Try.prog 24 #[.agg #[.int .i64 pc, u, v, .int .i64 ht], .agg #[.int .i64 k, .int .i64 y, .slice ba bs.length bc, .int .i64 (p : Int), .int .i64 (g : Int), .int .i64 (f : Int)], gv, .bool true] w fun e w' => GivePost true pc (0) (xs.set g 1) (ys) w e w' := by
  simp only [gvB, Bool.and_eq_true] at hok
  have HC0 := hid hok.1
  have HC1 := hid hok.2.1
  have HC2 := hid hok.2.2
  have LR := hid (show xs.length = 4 from by have := hu.1; omega)
  have LM := hid (show ys.length = 8 from by have := hv.1; omega)
  have RU := hid hu
  have RV := hid hv
  have RB := hid hb
  have RG := hid hgv
  obtain ⟨_, _, a1, c1, rfl, _⟩ := hu
  obtain ⟨_, _, a2, c2, rfl, _⟩ := hv
  obtain ⟨_, _, ga, gc, rfl, _⟩ := hgv
  have HGO := hid (rd_old RG.out)
  clear hb hok
  subst h0
  subst h1
  go_enter Try.func24, Try.ntmps24
  go_wp2_with fail
  have PP := hid (Below.refl w.heap.size w)
  have A := below_alloc1 w (.cells #[.int .i64 pc, .slice a1 4 c1, .slice a2 8 c2, .int .i64 0] 25)
  replace RU := hid (RU.out.keep A)
  replace RV := hid (RV.out.keep A)
  replace RB := hid (RB.out.keep A)
  replace RG := hid (RG.out.keep A)
  replace PP := hid (PP.out.trans (A.mono PP.out.size))
  have VS := hid (vb_new w [.int .i64 pc, .slice a1 4 c1, .slice a2 8 c2, .int .i64 0] 25)
  have z0 : (w.alloc (.cells #[.int .i64 pc, .slice a1 4 c1, .slice a2 8 c2, .int .i64 0] 25)).heap.size = w.heap.size + 1 := by simp
  obtain ⟨U0, hU0⟩ : ∃ X, w.alloc (.cells #[.int .i64 pc, .slice a1 4 c1, .slice a2 8 c2, .int .i64 0] 25) = X := ⟨_, rfl⟩
  rw [hU0] at z0 RU RV RB RG VS PP
  try rw [hU0]
  clear A hU0
  have A := below_alloc1 U0 (.cells #[.int .i64 1, .int .i64 y, .slice ba bs.length bc, .int .i64 (p : Int), .int .i64 (g : Int), .int .i64 (f : Int)] 30)
  replace RU := hid (RU.out.keep A)
  replace RV := hid (RV.out.keep A)
  replace RB := hid (RB.out.keep A)
  replace RG := hid (RG.out.keep A)
  replace VS := hid (VS.out.keep A)
  replace PP := hid (PP.out.trans (A.mono PP.out.size))
  have VQ := hid (vb_new U0 [.int .i64 1, .int .i64 y, .slice ba bs.length bc, .int .i64 (p : Int), .int .i64 (g : Int), .int .i64 (f : Int)] 30)
  have z1 : (U0.alloc (.cells #[.int .i64 1, .int .i64 y, .slice ba bs.length bc, .int .i64 (p : Int), .int .i64 (g : Int), .int .i64 (f : Int)] 30)).heap.size = w.heap.size + 2 := by simp [z0]
  rw [z0] at VQ
  obtain ⟨U1, hU1⟩ : ∃ X, U0.alloc (.cells #[.int .i64 1, .int .i64 y, .slice ba bs.length bc, .int .i64 (p : Int), .int .i64 (g : Int), .int .i64 (f : Int)] 30) = X := ⟨_, rfl⟩
  rw [hU1] at z1 RU RV RB RG VS VQ PP
  try rw [hU1]
  clear A hU1
  have A := below_alloc1 U1 (.cells #[.int .i64 0, .slice none 0 0, .slice none 0 0, .int .i64 0] 25)
  replace RU := hid (RU.out.keep A)
  replace RV := hid (RV.out.keep A)
  replace RB := hid (RB.out.keep A)
  replace RG := hid (RG.out.keep A)
  replace VS := hid (VS.out.keep A)
  replace VQ := hid (VQ.out.keep A)
  replace PP := hid (PP.out.trans (A.mono PP.out.size))
  have VR := hid (vb_new U1 [.int .i64 0, .slice none 0 0, .slice none 0 0, .int .i64 0] 25)
  have z2 : (U1.alloc (.cells #[.int .i64 0, .slice none 0 0, .slice none 0 0, .int .i64 0] 25)).heap.size = w.heap.size + 3 := by simp [z1]
  rw [z1] at VR
  obtain ⟨U2, hU2⟩ : ∃ X, U1.alloc (.cells #[.int .i64 0, .slice none 0 0, .slice none 0 0, .int .i64 0] 25) = X := ⟨_, rfl⟩
  rw [hU2] at z2 RU RV RB RG VS VQ VR PP
  try rw [hU2]
  clear A hU2
  obtain ⟨s0, s1, s2, s3⟩ := vb4 VS.out
  refine (specVmOk_any pc 0 _ _ 4 8 xs ys _ RU.out RV.out).mono ?_
  rw [HC0.out]
  rintro e w1 ⟨rfl, bb⟩
  clear s0 s1 s2 s3
  replace RU := hid (RU.out.keep bb)
  replace RV := hid (RV.out.keep bb)
  replace RB := hid (RB.out.keep bb)
  replace RG := hid (RG.out.keep bb)
  replace VS := hid (VS.out.keep bb)
  replace VQ := hid (VQ.out.keep bb)
  replace VR := hid (VR.out.keep bb)
  replace PP := hid (PP.out.trans (bb.mono PP.out.size))
  clear bb
  obtain ⟨q0, q1, q2, q3, q4, q5⟩ := vb6 VQ.out
  go_wp2_with fail
  clear q0 q1 q2 q3 q4 q5
  refine (askOk_any 1 y (p : Int) (g : Int) (f : Int) ba bc bs _ RB.out).mono ?_
  rw [HC1.out]
  rintro e w2 ⟨rfl, bb⟩
  replace RU := hid (RU.out.keep bb)
  replace RV := hid (RV.out.keep bb)
  replace RB := hid (RB.out.keep bb)
  replace RG := hid (RG.out.keep bb)
  replace VS := hid (VS.out.keep bb)
  replace VQ := hid (VQ.out.keep bb)
  replace VR := hid (VR.out.keep bb)
  replace PP := hid (PP.out.trans (bb.mono PP.out.size))
  clear bb
  go_wp2_with fail
  refine (specMsg_any _ got _ RG.out).mono ?_
  rw [HC2.out]
  rintro e w3 ⟨rfl, rfl⟩
  obtain ⟨s0, s1, s2, s3⟩ := vb4 VS.out
  go_wp2_with fail
  clear s0 s1 s2 s3
  refine (l6Copy_any pc 0 xs ys _ _ _ RU.out RV.out).mono ?_
  rintro e w4 ⟨u1, v1, rfl, o1, o2, ap, bb⟩
  clear RU RV RB VS
  have HLB := hid (VR.out.2.2)
  replace RG := hid (RG.out.keep bb)
  replace VQ := hid (VQ.out.keep bb)
  replace VR := hid (VR.out.keep bb)
  replace PP := hid (PP.out.trans (bb.mono PP.out.size))
  clear bb
  obtain ⟨L, hL⟩ : ∃ L, w3.heap.size = L := ⟨_, rfl⟩
  rw [hL] at o1 o2 HLB
  obtain ⟨x1, d1, rfl, e1⟩ := ownI_form o1
  obtain ⟨x2, d2, rfl, e2⟩ := ownI_form o2
  obtain ⟨gu, rfl⟩ : ∃ gu, x1 = some ⟨gu, 0, none⟩ := by rcases e1 with e1 | e1; omega; exact e1
  obtain ⟨gv, rfl⟩ : ∃ gv, x2 = some ⟨gv, 0, none⟩ := by rcases e2 with e2 | e2; omega; exact e2
  have HGU := hid (o1.blk gu rfl)
  have HGV := hid (o2.blk gv rfl)
  have AP := hid (show ¬ gv = gu from fun e => by subst e; exact ap gv rfl rfl)
  have O1 := hid o1
  have O2 := hid o2
  clear o1 o2 ap e1 e2
  obtain ⟨b, hb⟩ : ∃ b, w4.heap.size = b := ⟨_, rfl⟩
  have VX := hid (show VB (w4.alloc (.cells #[.int .i64 pc, .slice (some ⟨gu, 0, none⟩) 4 d1, .slice (some ⟨gv, 0, none⟩) 8 d2, .int .i64 0] 25)) b _ from by rw [← hb]; exact vb_new w4 [.int .i64 pc, .slice (some ⟨gu, 0, none⟩) 4 d1, .slice (some ⟨gv, 0, none⟩) 8 d2, .int .i64 0] 25)
  have A := below_alloc1 w4 (.cells #[.int .i64 pc, .slice (some ⟨gu, 0, none⟩) 4 d1, .slice (some ⟨gv, 0, none⟩) 8 d2, .int .i64 0] 25)
  replace RG := hid (RG.out.keep A)
  replace VQ := hid (VQ.out.keep A)
  replace VR := hid (VR.out.keep A)
  replace O1 := hid (O1.out.keep A)
  replace O2 := hid (O2.out.keep A)
  replace PP := hid (PP.out.trans (A.mono PP.out.size))
  clear A
  have HBX := hid (show L ≤ b ∧ gu < b ∧ gv < b by have := HGU.out; have := HGV.out; omega)
  have O1LO := hid (show L ≤ gu ∧ L ≤ gv from ⟨HGU.out.1, HGV.out.1⟩)
  have g0 : (0 : Int) ≤ (g : Int) := by omega
  have g4 : (g : Int) < 4 := by omega
  have f0 : (0 : Int) ≤ (f : Int) := by omega
  have f4 : (f : Int) < 4 := by omega
  go_upto_if 29 with fail
  obtain ⟨w5, hw5⟩ : ∃ X, w4.alloc (.cells #[.int .i64 pc, .slice (some ⟨gu, 0, none⟩) 4 d1, .slice (some ⟨gv, 0, none⟩) 8 d2, .int .i64 0] 25) = X := ⟨_, rfl⟩
  rw [hw5] at RG VQ VR O1 O2 VX PP
  try rw [hw5]
  try rw [hb]
  clear hw5 hb HGU HGV
  obtain ⟨q0, q1, q2, q3, q4, q5⟩ := vb6 VQ.out
  obtain ⟨xx0, xx1, xx2, xx3⟩ := vb4 VX.out
  obtain ⟨rc, rf, _, _⟩ := ownI_cell O1.out (i := g) (by have := O1.out.len; omega)
  obtain ⟨zz, hzz⟩ : ∃ z, (xs).getD g 0 = z := ⟨_, rfl⟩
  rw [hzz] at rc
  clear hzz
  go_upto_region 25 with fail
  clear rc rf q0 q1 q2 q3 q4 q5 xx0 xx1 xx2 xx3
  have CC : Chg (fun j => j = gu) w5 (w5.setCell ⟨gu, g, none⟩ (.int .i64 (1))) := (Chg.refl (fun j => j = gu) w5).set (p := ⟨gu, g, none⟩) rfl (.int .i64 (1))
  replace RG := hid (rd_chg RG.out CC (fun hl j hj e => by have e : j = gu := e; have := HGO.out hl j hj; have := O1LO.out; have := HLB.out; omega))
  replace VQ := hid (VQ.out.chg CC (fun e => by have e : _ = gu := e; have := HBX.out; have := HLB.out; have := O1LO.out; omega))
  replace VR := hid (VR.out.chg CC (fun e => by have e : _ = gu := e; have := HBX.out; have := HLB.out; have := O1LO.out; omega))
  replace O1 := hid ((ownI_set O1.out (i := g) (y := 1) (by have := O1.out.len; omega)))
  replace O2 := hid (O2.out.chg CC (fun j hj e => by have e : j = gu := e; simp [Value.ownBlock] at hj; have := AP.out; omega))
  replace VX := hid (VX.out.chg CC (fun e => by have e : _ = gu := e; have := HBX.out; have := HLB.out; have := O1LO.out; omega))
  replace PP := hid (below_chg PP.out CC PP.out.size (fun j hj => by have hj : j = gu := hj; have := O1LO.out; have := HLB.out; omega))
  obtain ⟨w6, hw6⟩ : ∃ X, (w5.setCell ⟨gu, g, none⟩ (.int .i64 (1))) = X := ⟨_, rfl⟩
  rw [hw6] at CC PP RG VQ VR O1 O2 VX
  try rw [hw6]
  clear hw6 CC
  obtain ⟨xx0, xx1, xx2, xx3⟩ := vb4 VX.out
  obtain ⟨r0, r1, r2, r3⟩ := vb4 VR.out
  have fr := VR.out.2.1
  obtain ⟨e1, e2, e3, e4⟩ := give_end2 (pc := pc) (H := 0) (w := w) (B := w.heap.size + 2) (by omega) HLB.out PP.out VR.out O1.out O2.out
  have E1 := hid e1
  have E2 := hid e2
  have E3 := hid e3
  have E4 := hid e4
  have AQ := hid AP.out
  clear e1 e2 e3 e4 VR O1 O2 VX
  go_wp2_with fail
  refine bodyPost_ret (resGiveS _ rfl E1.out) rfl ?_
  exact ⟨_, _, rfl, E2.out, E3.out, (fun j hj e => by simp [Value.ownBlock] at hj e; have := AQ.out; omega), E4.out⟩
set_option maxHeartbeats 16000000 in
theorem sgive_sends0 (pc ht k y : Int) (p g f : Nat) (ba : Option Addr) (bc : Nat) (bs : List Int) (gv : Value) (got : List Int) (u v : Value) (xs ys : List Int) (w : World) (hu : RdI 1 w u 4 xs) (hv : RdI 1 w v 8 ys) (hb : Rd w (.slice ba bs.length bc) bs) (hgv : Rd w gv got) (hg : g < 4) (hf : f < 4) (hp : p ≤ 255) (h0 : ht = 0) (h1 : k = 1) (hok : gvB pc 4 xs 8 ys ht k y bs.length (p : Int) (g : Int) (f : Int) got = true) :
    Calls Try.prog 24 #[.agg #[.int .i64 pc, u, v, .int .i64 ht], .agg #[.int .i64 k, .int .i64 y, .slice ba bs.length bc, .int .i64 (p : Int), .int .i64 (g : Int), .int .i64 (f : Int)], gv, .bool false] w fun e w' => GivePost true pc (0) (xs.set g 0) (ys) w e w' := by
  simp only [gvB, Bool.and_eq_true] at hok
  have HC0 := hid hok.1
  have HC1 := hid hok.2.1
  have HC2 := hid hok.2.2
  have LR := hid (show xs.length = 4 from by have := hu.1; omega)
  have LM := hid (show ys.length = 8 from by have := hv.1; omega)
  have RU := hid hu
  have RV := hid hv
  have RB := hid hb
  have RG := hid hgv
  obtain ⟨_, _, a1, c1, rfl, _⟩ := hu
  obtain ⟨_, _, a2, c2, rfl, _⟩ := hv
  obtain ⟨_, _, ga, gc, rfl, _⟩ := hgv
  have HGO := hid (rd_old RG.out)
  clear hb hok
  subst h0
  subst h1
  go_enter Try.func24, Try.ntmps24
  go_wp2_with fail
  have PP := hid (Below.refl w.heap.size w)
  have A := below_alloc1 w (.cells #[.int .i64 pc, .slice a1 4 c1, .slice a2 8 c2, .int .i64 0] 25)
  replace RU := hid (RU.out.keep A)
  replace RV := hid (RV.out.keep A)
  replace RB := hid (RB.out.keep A)
  replace RG := hid (RG.out.keep A)
  replace PP := hid (PP.out.trans (A.mono PP.out.size))
  have VS := hid (vb_new w [.int .i64 pc, .slice a1 4 c1, .slice a2 8 c2, .int .i64 0] 25)
  have z0 : (w.alloc (.cells #[.int .i64 pc, .slice a1 4 c1, .slice a2 8 c2, .int .i64 0] 25)).heap.size = w.heap.size + 1 := by simp
  obtain ⟨U0, hU0⟩ : ∃ X, w.alloc (.cells #[.int .i64 pc, .slice a1 4 c1, .slice a2 8 c2, .int .i64 0] 25) = X := ⟨_, rfl⟩
  rw [hU0] at z0 RU RV RB RG VS PP
  try rw [hU0]
  clear A hU0
  have A := below_alloc1 U0 (.cells #[.int .i64 1, .int .i64 y, .slice ba bs.length bc, .int .i64 (p : Int), .int .i64 (g : Int), .int .i64 (f : Int)] 30)
  replace RU := hid (RU.out.keep A)
  replace RV := hid (RV.out.keep A)
  replace RB := hid (RB.out.keep A)
  replace RG := hid (RG.out.keep A)
  replace VS := hid (VS.out.keep A)
  replace PP := hid (PP.out.trans (A.mono PP.out.size))
  have VQ := hid (vb_new U0 [.int .i64 1, .int .i64 y, .slice ba bs.length bc, .int .i64 (p : Int), .int .i64 (g : Int), .int .i64 (f : Int)] 30)
  have z1 : (U0.alloc (.cells #[.int .i64 1, .int .i64 y, .slice ba bs.length bc, .int .i64 (p : Int), .int .i64 (g : Int), .int .i64 (f : Int)] 30)).heap.size = w.heap.size + 2 := by simp [z0]
  rw [z0] at VQ
  obtain ⟨U1, hU1⟩ : ∃ X, U0.alloc (.cells #[.int .i64 1, .int .i64 y, .slice ba bs.length bc, .int .i64 (p : Int), .int .i64 (g : Int), .int .i64 (f : Int)] 30) = X := ⟨_, rfl⟩
  rw [hU1] at z1 RU RV RB RG VS VQ PP
  try rw [hU1]
  clear A hU1
  have A := below_alloc1 U1 (.cells #[.int .i64 0, .slice none 0 0, .slice none 0 0, .int .i64 0] 25)
  replace RU := hid (RU.out.keep A)
  replace RV := hid (RV.out.keep A)
  replace RB := hid (RB.out.keep A)
  replace RG := hid (RG.out.keep A)
  replace VS := hid (VS.out.keep A)
  replace VQ := hid (VQ.out.keep A)
  replace PP := hid (PP.out.trans (A.mono PP.out.size))
  have VR := hid (vb_new U1 [.int .i64 0, .slice none 0 0, .slice none 0 0, .int .i64 0] 25)
  have z2 : (U1.alloc (.cells #[.int .i64 0, .slice none 0 0, .slice none 0 0, .int .i64 0] 25)).heap.size = w.heap.size + 3 := by simp [z1]
  rw [z1] at VR
  obtain ⟨U2, hU2⟩ : ∃ X, U1.alloc (.cells #[.int .i64 0, .slice none 0 0, .slice none 0 0, .int .i64 0] 25) = X := ⟨_, rfl⟩
  rw [hU2] at z2 RU RV RB RG VS VQ VR PP
  try rw [hU2]
  clear A hU2
  obtain ⟨s0, s1, s2, s3⟩ := vb4 VS.out
  refine (specVmOk_any pc 0 _ _ 4 8 xs ys _ RU.out RV.out).mono ?_
  rw [HC0.out]
  rintro e w1 ⟨rfl, bb⟩
  clear s0 s1 s2 s3
  replace RU := hid (RU.out.keep bb)
  replace RV := hid (RV.out.keep bb)
  replace RB := hid (RB.out.keep bb)
  replace RG := hid (RG.out.keep bb)
  replace VS := hid (VS.out.keep bb)
  replace VQ := hid (VQ.out.keep bb)
  replace VR := hid (VR.out.keep bb)
  replace PP := hid (PP.out.trans (bb.mono PP.out.size))
  clear bb
  obtain ⟨q0, q1, q2, q3, q4, q5⟩ := vb6 VQ.out
  go_wp2_with fail
  clear q0 q1 q2 q3 q4 q5
  refine (askOk_any 1 y (p : Int) (g : Int) (f : Int) ba bc bs _ RB.out).mono ?_
  rw [HC1.out]
  rintro e w2 ⟨rfl, bb⟩
  replace RU := hid (RU.out.keep bb)
  replace RV := hid (RV.out.keep bb)
  replace RB := hid (RB.out.keep bb)
  replace RG := hid (RG.out.keep bb)
  replace VS := hid (VS.out.keep bb)
  replace VQ := hid (VQ.out.keep bb)
  replace VR := hid (VR.out.keep bb)
  replace PP := hid (PP.out.trans (bb.mono PP.out.size))
  clear bb
  go_wp2_with fail
  refine (specMsg_any _ got _ RG.out).mono ?_
  rw [HC2.out]
  rintro e w3 ⟨rfl, rfl⟩
  obtain ⟨s0, s1, s2, s3⟩ := vb4 VS.out
  go_wp2_with fail
  clear s0 s1 s2 s3
  refine (l6Copy_any pc 0 xs ys _ _ _ RU.out RV.out).mono ?_
  rintro e w4 ⟨u1, v1, rfl, o1, o2, ap, bb⟩
  clear RU RV RB VS
  have HLB := hid (VR.out.2.2)
  replace RG := hid (RG.out.keep bb)
  replace VQ := hid (VQ.out.keep bb)
  replace VR := hid (VR.out.keep bb)
  replace PP := hid (PP.out.trans (bb.mono PP.out.size))
  clear bb
  obtain ⟨L, hL⟩ : ∃ L, w3.heap.size = L := ⟨_, rfl⟩
  rw [hL] at o1 o2 HLB
  obtain ⟨x1, d1, rfl, e1⟩ := ownI_form o1
  obtain ⟨x2, d2, rfl, e2⟩ := ownI_form o2
  obtain ⟨gu, rfl⟩ : ∃ gu, x1 = some ⟨gu, 0, none⟩ := by rcases e1 with e1 | e1; omega; exact e1
  obtain ⟨gv, rfl⟩ : ∃ gv, x2 = some ⟨gv, 0, none⟩ := by rcases e2 with e2 | e2; omega; exact e2
  have HGU := hid (o1.blk gu rfl)
  have HGV := hid (o2.blk gv rfl)
  have AP := hid (show ¬ gv = gu from fun e => by subst e; exact ap gv rfl rfl)
  have O1 := hid o1
  have O2 := hid o2
  clear o1 o2 ap e1 e2
  obtain ⟨b, hb⟩ : ∃ b, w4.heap.size = b := ⟨_, rfl⟩
  have VX := hid (show VB (w4.alloc (.cells #[.int .i64 pc, .slice (some ⟨gu, 0, none⟩) 4 d1, .slice (some ⟨gv, 0, none⟩) 8 d2, .int .i64 0] 25)) b _ from by rw [← hb]; exact vb_new w4 [.int .i64 pc, .slice (some ⟨gu, 0, none⟩) 4 d1, .slice (some ⟨gv, 0, none⟩) 8 d2, .int .i64 0] 25)
  have A := below_alloc1 w4 (.cells #[.int .i64 pc, .slice (some ⟨gu, 0, none⟩) 4 d1, .slice (some ⟨gv, 0, none⟩) 8 d2, .int .i64 0] 25)
  replace RG := hid (RG.out.keep A)
  replace VQ := hid (VQ.out.keep A)
  replace VR := hid (VR.out.keep A)
  replace O1 := hid (O1.out.keep A)
  replace O2 := hid (O2.out.keep A)
  replace PP := hid (PP.out.trans (A.mono PP.out.size))
  clear A
  have HBX := hid (show L ≤ b ∧ gu < b ∧ gv < b by have := HGU.out; have := HGV.out; omega)
  have O1LO := hid (show L ≤ gu ∧ L ≤ gv from ⟨HGU.out.1, HGV.out.1⟩)
  have g0 : (0 : Int) ≤ (g : Int) := by omega
  have g4 : (g : Int) < 4 := by omega
  have f0 : (0 : Int) ≤ (f : Int) := by omega
  have f4 : (f : Int) < 4 := by omega
  go_upto_if 29 with fail
  obtain ⟨w5, hw5⟩ : ∃ X, w4.alloc (.cells #[.int .i64 pc, .slice (some ⟨gu, 0, none⟩) 4 d1, .slice (some ⟨gv, 0, none⟩) 8 d2, .int .i64 0] 25) = X := ⟨_, rfl⟩
  rw [hw5] at RG VQ VR O1 O2 VX PP
  try rw [hw5]
  try rw [hb]
  clear hw5 hb HGU HGV
  obtain ⟨q0, q1, q2, q3, q4, q5⟩ := vb6 VQ.out
  obtain ⟨xx0, xx1, xx2, xx3⟩ := vb4 VX.out
  obtain ⟨rc, rf, _, _⟩ := ownI_cell O1.out (i := g) (by have := O1.out.len; omega)
  obtain ⟨zz, hzz⟩ : ∃ z, (xs).getD g 0 = z := ⟨_, rfl⟩
  rw [hzz] at rc
  clear hzz
  go_upto_region 25 with fail
  clear rc rf q0 q1 q2 q3 q4 q5 xx0 xx1 xx2 xx3
  have CC : Chg (fun j => j = gu) w5 (w5.setCell ⟨gu, g, none⟩ (.int .i64 (0))) := (Chg.refl (fun j => j = gu) w5).set (p := ⟨gu, g, none⟩) rfl (.int .i64 (0))
  replace RG := hid (rd_chg RG.out CC (fun hl j hj e => by have e : j = gu := e; have := HGO.out hl j hj; have := O1LO.out; have := HLB.out; omega))
  replace VQ := hid (VQ.out.chg CC (fun e => by have e : _ = gu := e; have := HBX.out; have := HLB.out; have := O1LO.out; omega))
  replace VR := hid (VR.out.chg CC (fun e => by have e : _ = gu := e; have := HBX.out; have := HLB.out; have := O1LO.out; omega))
  replace O1 := hid ((ownI_set O1.out (i := g) (y := 0) (by have := O1.out.len; omega)))
  replace O2 := hid (O2.out.chg CC (fun j hj e => by have e : j = gu := e; simp [Value.ownBlock] at hj; have := AP.out; omega))
  replace VX := hid (VX.out.chg CC (fun e => by have e : _ = gu := e; have := HBX.out; have := HLB.out; have := O1LO.out; omega))
  replace PP := hid (below_chg PP.out CC PP.out.size (fun j hj => by have hj : j = gu := hj; have := O1LO.out; have := HLB.out; omega))
  obtain ⟨w6, hw6⟩ : ∃ X, (w5.setCell ⟨gu, g, none⟩ (.int .i64 (0))) = X := ⟨_, rfl⟩
  rw [hw6] at CC PP RG VQ VR O1 O2 VX
  try rw [hw6]
  clear hw6 CC
  obtain ⟨xx0, xx1, xx2, xx3⟩ := vb4 VX.out
  obtain ⟨r0, r1, r2, r3⟩ := vb4 VR.out
  have fr := VR.out.2.1
  obtain ⟨e1, e2, e3, e4⟩ := give_end2 (pc := pc) (H := 0) (w := w) (B := w.heap.size + 2) (by omega) HLB.out PP.out VR.out O1.out O2.out
  have E1 := hid e1
  have E2 := hid e2
  have E3 := hid e3
  have E4 := hid e4
  have AQ := hid AP.out
  clear e1 e2 e3 e4 VR O1 O2 VX
  go_wp2_with fail
  refine bodyPost_ret (resGiveS _ rfl E1.out) rfl ?_
  exact ⟨_, _, rfl, E2.out, E3.out, (fun j hj e => by simp [Value.ownBlock] at hj e; have := AQ.out; omega), E4.out⟩
set_option maxHeartbeats 16000000 in
theorem sgive_no (pc ht k y : Int) (p g f : Nat) (ba : Option Addr) (bc : Nat) (bs : List Int) (gv : Value) (got : List Int) (u v : Value) (xs ys : List Int) (w : World) (hu : RdI 1 w u 4 xs) (hv : RdI 1 w v 8 ys) (hb : Rd w (.slice ba bs.length bc) bs) (hgv : Rd w gv got) (hg : g < 4) (hf : f < 4) (hp : p ≤ 255) (h0 : ht = 0) (h1 : k = 2) (hok : gvB pc 4 xs 8 ys ht k y bs.length (p : Int) (g : Int) (f : Int) got = true) :
    Calls Try.prog 24 #[.agg #[.int .i64 pc, u, v, .int .i64 ht], .agg #[.int .i64 k, .int .i64 y, .slice ba bs.length bc, .int .i64 (p : Int), .int .i64 (g : Int), .int .i64 (f : Int)], gv, .bool false] w fun e w' => GivePost true pc (0) (xs.set g 0) (ys) w e w' := by
  simp only [gvB, Bool.and_eq_true] at hok
  have HC0 := hid hok.1
  have HC1 := hid hok.2.1
  have HC2 := hid hok.2.2
  have LR := hid (show xs.length = 4 from by have := hu.1; omega)
  have LM := hid (show ys.length = 8 from by have := hv.1; omega)
  have RU := hid hu
  have RV := hid hv
  have RB := hid hb
  have RG := hid hgv
  obtain ⟨_, _, a1, c1, rfl, _⟩ := hu
  obtain ⟨_, _, a2, c2, rfl, _⟩ := hv
  obtain ⟨_, _, ga, gc, rfl, _⟩ := hgv
  have HGO := hid (rd_old RG.out)
  clear hb hok
  subst h0
  subst h1
  go_enter Try.func24, Try.ntmps24
  go_wp2_with fail
  have PP := hid (Below.refl w.heap.size w)
  have A := below_alloc1 w (.cells #[.int .i64 pc, .slice a1 4 c1, .slice a2 8 c2, .int .i64 0] 25)
  replace RU := hid (RU.out.keep A)
  replace RV := hid (RV.out.keep A)
  replace RB := hid (RB.out.keep A)
  replace RG := hid (RG.out.keep A)
  replace PP := hid (PP.out.trans (A.mono PP.out.size))
  have VS := hid (vb_new w [.int .i64 pc, .slice a1 4 c1, .slice a2 8 c2, .int .i64 0] 25)
  have z0 : (w.alloc (.cells #[.int .i64 pc, .slice a1 4 c1, .slice a2 8 c2, .int .i64 0] 25)).heap.size = w.heap.size + 1 := by simp
  obtain ⟨U0, hU0⟩ : ∃ X, w.alloc (.cells #[.int .i64 pc, .slice a1 4 c1, .slice a2 8 c2, .int .i64 0] 25) = X := ⟨_, rfl⟩
  rw [hU0] at z0 RU RV RB RG VS PP
  try rw [hU0]
  clear A hU0
  have A := below_alloc1 U0 (.cells #[.int .i64 2, .int .i64 y, .slice ba bs.length bc, .int .i64 (p : Int), .int .i64 (g : Int), .int .i64 (f : Int)] 30)
  replace RU := hid (RU.out.keep A)
  replace RV := hid (RV.out.keep A)
  replace RB := hid (RB.out.keep A)
  replace RG := hid (RG.out.keep A)
  replace VS := hid (VS.out.keep A)
  replace PP := hid (PP.out.trans (A.mono PP.out.size))
  have VQ := hid (vb_new U0 [.int .i64 2, .int .i64 y, .slice ba bs.length bc, .int .i64 (p : Int), .int .i64 (g : Int), .int .i64 (f : Int)] 30)
  have z1 : (U0.alloc (.cells #[.int .i64 2, .int .i64 y, .slice ba bs.length bc, .int .i64 (p : Int), .int .i64 (g : Int), .int .i64 (f : Int)] 30)).heap.size = w.heap.size + 2 := by simp [z0]
  rw [z0] at VQ
  obtain ⟨U1, hU1⟩ : ∃ X, U0.alloc (.cells #[.int .i64 2, .int .i64 y, .slice ba bs.length bc, .int .i64 (p : Int), .int .i64 (g : Int), .int .i64 (f : Int)] 30) = X := ⟨_, rfl⟩
  rw [hU1] at z1 RU RV RB RG VS VQ PP
  try rw [hU1]
  clear A hU1
  have A := below_alloc1 U1 (.cells #[.int .i64 0, .slice none 0 0, .slice none 0 0, .int .i64 0] 25)
  replace RU := hid (RU.out.keep A)
  replace RV := hid (RV.out.keep A)
  replace RB := hid (RB.out.keep A)
  replace RG := hid (RG.out.keep A)
  replace VS := hid (VS.out.keep A)
  replace VQ := hid (VQ.out.keep A)
  replace PP := hid (PP.out.trans (A.mono PP.out.size))
  have VR := hid (vb_new U1 [.int .i64 0, .slice none 0 0, .slice none 0 0, .int .i64 0] 25)
  have z2 : (U1.alloc (.cells #[.int .i64 0, .slice none 0 0, .slice none 0 0, .int .i64 0] 25)).heap.size = w.heap.size + 3 := by simp [z1]
  rw [z1] at VR
  obtain ⟨U2, hU2⟩ : ∃ X, U1.alloc (.cells #[.int .i64 0, .slice none 0 0, .slice none 0 0, .int .i64 0] 25) = X := ⟨_, rfl⟩
  rw [hU2] at z2 RU RV RB RG VS VQ VR PP
  try rw [hU2]
  clear A hU2
  obtain ⟨s0, s1, s2, s3⟩ := vb4 VS.out
  refine (specVmOk_any pc 0 _ _ 4 8 xs ys _ RU.out RV.out).mono ?_
  rw [HC0.out]
  rintro e w1 ⟨rfl, bb⟩
  clear s0 s1 s2 s3
  replace RU := hid (RU.out.keep bb)
  replace RV := hid (RV.out.keep bb)
  replace RB := hid (RB.out.keep bb)
  replace RG := hid (RG.out.keep bb)
  replace VS := hid (VS.out.keep bb)
  replace VQ := hid (VQ.out.keep bb)
  replace VR := hid (VR.out.keep bb)
  replace PP := hid (PP.out.trans (bb.mono PP.out.size))
  clear bb
  obtain ⟨q0, q1, q2, q3, q4, q5⟩ := vb6 VQ.out
  go_wp2_with fail
  clear q0 q1 q2 q3 q4 q5
  refine (askOk_any 2 y (p : Int) (g : Int) (f : Int) ba bc bs _ RB.out).mono ?_
  rw [HC1.out]
  rintro e w2 ⟨rfl, bb⟩
  replace RU := hid (RU.out.keep bb)
  replace RV := hid (RV.out.keep bb)
  replace RB := hid (RB.out.keep bb)
  replace RG := hid (RG.out.keep bb)
  replace VS := hid (VS.out.keep bb)
  replace VQ := hid (VQ.out.keep bb)
  replace VR := hid (VR.out.keep bb)
  replace PP := hid (PP.out.trans (bb.mono PP.out.size))
  clear bb
  go_wp2_with fail
  refine (specMsg_any _ got _ RG.out).mono ?_
  rw [HC2.out]
  rintro e w3 ⟨rfl, rfl⟩
  obtain ⟨s0, s1, s2, s3⟩ := vb4 VS.out
  go_wp2_with fail
  clear s0 s1 s2 s3
  refine (l6Copy_any pc 0 xs ys _ _ _ RU.out RV.out).mono ?_
  rintro e w4 ⟨u1, v1, rfl, o1, o2, ap, bb⟩
  clear RU RV RB VS
  have HLB := hid (VR.out.2.2)
  replace RG := hid (RG.out.keep bb)
  replace VQ := hid (VQ.out.keep bb)
  replace VR := hid (VR.out.keep bb)
  replace PP := hid (PP.out.trans (bb.mono PP.out.size))
  clear bb
  obtain ⟨L, hL⟩ : ∃ L, w3.heap.size = L := ⟨_, rfl⟩
  rw [hL] at o1 o2 HLB
  obtain ⟨x1, d1, rfl, e1⟩ := ownI_form o1
  obtain ⟨x2, d2, rfl, e2⟩ := ownI_form o2
  obtain ⟨gu, rfl⟩ : ∃ gu, x1 = some ⟨gu, 0, none⟩ := by rcases e1 with e1 | e1; omega; exact e1
  obtain ⟨gv, rfl⟩ : ∃ gv, x2 = some ⟨gv, 0, none⟩ := by rcases e2 with e2 | e2; omega; exact e2
  have HGU := hid (o1.blk gu rfl)
  have HGV := hid (o2.blk gv rfl)
  have AP := hid (show ¬ gv = gu from fun e => by subst e; exact ap gv rfl rfl)
  have O1 := hid o1
  have O2 := hid o2
  clear o1 o2 ap e1 e2
  obtain ⟨b, hb⟩ : ∃ b, w4.heap.size = b := ⟨_, rfl⟩
  have VX := hid (show VB (w4.alloc (.cells #[.int .i64 pc, .slice (some ⟨gu, 0, none⟩) 4 d1, .slice (some ⟨gv, 0, none⟩) 8 d2, .int .i64 0] 25)) b _ from by rw [← hb]; exact vb_new w4 [.int .i64 pc, .slice (some ⟨gu, 0, none⟩) 4 d1, .slice (some ⟨gv, 0, none⟩) 8 d2, .int .i64 0] 25)
  have A := below_alloc1 w4 (.cells #[.int .i64 pc, .slice (some ⟨gu, 0, none⟩) 4 d1, .slice (some ⟨gv, 0, none⟩) 8 d2, .int .i64 0] 25)
  replace RG := hid (RG.out.keep A)
  replace VQ := hid (VQ.out.keep A)
  replace VR := hid (VR.out.keep A)
  replace O1 := hid (O1.out.keep A)
  replace O2 := hid (O2.out.keep A)
  replace PP := hid (PP.out.trans (A.mono PP.out.size))
  clear A
  have HBX := hid (show L ≤ b ∧ gu < b ∧ gv < b by have := HGU.out; have := HGV.out; omega)
  have O1LO := hid (show L ≤ gu ∧ L ≤ gv from ⟨HGU.out.1, HGV.out.1⟩)
  have g0 : (0 : Int) ≤ (g : Int) := by omega
  have g4 : (g : Int) < 4 := by omega
  have f0 : (0 : Int) ≤ (f : Int) := by omega
  have f4 : (f : Int) < 4 := by omega
  go_upto_if 29 with fail
  obtain ⟨w5, hw5⟩ : ∃ X, w4.alloc (.cells #[.int .i64 pc, .slice (some ⟨gu, 0, none⟩) 4 d1, .slice (some ⟨gv, 0, none⟩) 8 d2, .int .i64 0] 25) = X := ⟨_, rfl⟩
  rw [hw5] at RG VQ VR O1 O2 VX PP
  try rw [hw5]
  try rw [hb]
  clear hw5 hb HGU HGV
  obtain ⟨q0, q1, q2, q3, q4, q5⟩ := vb6 VQ.out
  obtain ⟨xx0, xx1, xx2, xx3⟩ := vb4 VX.out
  obtain ⟨rc, rf, _, _⟩ := ownI_cell O1.out (i := g) (by have := O1.out.len; omega)
  obtain ⟨zz, hzz⟩ : ∃ z, (xs).getD g 0 = z := ⟨_, rfl⟩
  rw [hzz] at rc
  clear hzz
  go_upto_region 25 with fail
  clear rc rf q0 q1 q2 q3 q4 q5 xx0 xx1 xx2 xx3
  have CC : Chg (fun j => j = gu) w5 (w5.setCell ⟨gu, g, none⟩ (.int .i64 (0))) := (Chg.refl (fun j => j = gu) w5).set (p := ⟨gu, g, none⟩) rfl (.int .i64 (0))
  replace RG := hid (rd_chg RG.out CC (fun hl j hj e => by have e : j = gu := e; have := HGO.out hl j hj; have := O1LO.out; have := HLB.out; omega))
  replace VQ := hid (VQ.out.chg CC (fun e => by have e : _ = gu := e; have := HBX.out; have := HLB.out; have := O1LO.out; omega))
  replace VR := hid (VR.out.chg CC (fun e => by have e : _ = gu := e; have := HBX.out; have := HLB.out; have := O1LO.out; omega))
  replace O1 := hid ((ownI_set O1.out (i := g) (y := 0) (by have := O1.out.len; omega)))
  replace O2 := hid (O2.out.chg CC (fun j hj e => by have e : j = gu := e; simp [Value.ownBlock] at hj; have := AP.out; omega))
  replace VX := hid (VX.out.chg CC (fun e => by have e : _ = gu := e; have := HBX.out; have := HLB.out; have := O1LO.out; omega))
  replace PP := hid (below_chg PP.out CC PP.out.size (fun j hj => by have hj : j = gu := hj; have := O1LO.out; have := HLB.out; omega))
  obtain ⟨w6, hw6⟩ : ∃ X, (w5.setCell ⟨gu, g, none⟩ (.int .i64 (0))) = X := ⟨_, rfl⟩
  rw [hw6] at CC PP RG VQ VR O1 O2 VX
  try rw [hw6]
  clear hw6 CC
  obtain ⟨xx0, xx1, xx2, xx3⟩ := vb4 VX.out
  obtain ⟨r0, r1, r2, r3⟩ := vb4 VR.out
  have fr := VR.out.2.1
  obtain ⟨e1, e2, e3, e4⟩ := give_end2 (pc := pc) (H := 0) (w := w) (B := w.heap.size + 2) (by omega) HLB.out PP.out VR.out O1.out O2.out
  have E1 := hid e1
  have E2 := hid e2
  have E3 := hid e3
  have E4 := hid e4
  have AQ := hid AP.out
  clear e1 e2 e3 e4 VR O1 O2 VX
  go_wp2_with fail
  refine bodyPost_ret (resGiveS _ rfl E1.out) rfl ?_
  exact ⟨_, _, rfl, E2.out, E3.out, (fun j hj e => by simp [Value.ownBlock] at hj e; have := AQ.out; omega), E4.out⟩
set_option maxHeartbeats 16000000 in
theorem sgive_reads0 (pc ht k y : Int) (p g f : Nat) (ba : Option Addr) (bc : Nat) (bs : List Int) (gv : Value) (got : List Int) (u v : Value) (xs ys : List Int) (w : World) (hu : RdI 1 w u 4 xs) (hv : RdI 1 w v 8 ys) (hb : Rd w (.slice ba bs.length bc) bs) (hgv : Rd w gv got) (hg : g < 4) (hf : f < 4) (hp : p ≤ 255) (h0 : ht = 0) (h1 : k = 3) (hok : gvB pc 4 xs 8 ys ht k y bs.length (p : Int) (g : Int) (f : Int) got = true) :
    Calls Try.prog 24 #[.agg #[.int .i64 pc, u, v, .int .i64 ht], .agg #[.int .i64 k, .int .i64 y, .slice ba bs.length bc, .int .i64 (p : Int), .int .i64 (g : Int), .int .i64 (f : Int)], gv, .bool false] w fun e w' => GivePost true pc (0) ((xs.set g (rdF false got)).set f (rdG false got)) (ys) w e w' := by
  simp only [gvB, Bool.and_eq_true] at hok
  have HC0 := hid hok.1
  have HC1 := hid hok.2.1
  have HC2 := hid hok.2.2
  have LR := hid (show xs.length = 4 from by have := hu.1; omega)
  have LM := hid (show ys.length = 8 from by have := hv.1; omega)
  have RU := hid hu
  have RV := hid hv
  have RB := hid hb
  have RG := hid hgv
  obtain ⟨_, _, a1, c1, rfl, _⟩ := hu
  obtain ⟨_, _, a2, c2, rfl, _⟩ := hv
  obtain ⟨_, _, ga, gc, rfl, _⟩ := hgv
  have HGO := hid (rd_old RG.out)
  clear hb hok
  subst h0
  subst h1
  rw [show rdF false got = 0 by simp [rdF], show rdG false got = 0 by simp [rdG]]
  go_enter Try.func24, Try.ntmps24
  go_wp2_with fail
  have PP := hid (Below.refl w.heap.size w)
  have A := below_alloc1 w (.cells #[.int .i64 pc, .slice a1 4 c1, .slice a2 8 c2, .int .i64 0] 25)
  replace RU := hid (RU.out.keep A)
  replace RV := hid (RV.out.keep A)
  replace RB := hid (RB.out.keep A)
  replace RG := hid (RG.out.keep A)
  replace PP := hid (PP.out.trans (A.mono PP.out.size))
  have VS := hid (vb_new w [.int .i64 pc, .slice a1 4 c1, .slice a2 8 c2, .int .i64 0] 25)
  have z0 : (w.alloc (.cells #[.int .i64 pc, .slice a1 4 c1, .slice a2 8 c2, .int .i64 0] 25)).heap.size = w.heap.size + 1 := by simp
  obtain ⟨U0, hU0⟩ : ∃ X, w.alloc (.cells #[.int .i64 pc, .slice a1 4 c1, .slice a2 8 c2, .int .i64 0] 25) = X := ⟨_, rfl⟩
  rw [hU0] at z0 RU RV RB RG VS PP
  try rw [hU0]
  clear A hU0
  have A := below_alloc1 U0 (.cells #[.int .i64 3, .int .i64 y, .slice ba bs.length bc, .int .i64 (p : Int), .int .i64 (g : Int), .int .i64 (f : Int)] 30)
  replace RU := hid (RU.out.keep A)
  replace RV := hid (RV.out.keep A)
  replace RB := hid (RB.out.keep A)
  replace RG := hid (RG.out.keep A)
  replace VS := hid (VS.out.keep A)
  replace PP := hid (PP.out.trans (A.mono PP.out.size))
  have VQ := hid (vb_new U0 [.int .i64 3, .int .i64 y, .slice ba bs.length bc, .int .i64 (p : Int), .int .i64 (g : Int), .int .i64 (f : Int)] 30)
  have z1 : (U0.alloc (.cells #[.int .i64 3, .int .i64 y, .slice ba bs.length bc, .int .i64 (p : Int), .int .i64 (g : Int), .int .i64 (f : Int)] 30)).heap.size = w.heap.size + 2 := by simp [z0]
  rw [z0] at VQ
  obtain ⟨U1, hU1⟩ : ∃ X, U0.alloc (.cells #[.int .i64 3, .int .i64 y, .slice ba bs.length bc, .int .i64 (p : Int), .int .i64 (g : Int), .int .i64 (f : Int)] 30) = X := ⟨_, rfl⟩
  rw [hU1] at z1 RU RV RB RG VS VQ PP
  try rw [hU1]
  clear A hU1
  have A := below_alloc1 U1 (.cells #[.int .i64 0, .slice none 0 0, .slice none 0 0, .int .i64 0] 25)
  replace RU := hid (RU.out.keep A)
  replace RV := hid (RV.out.keep A)
  replace RB := hid (RB.out.keep A)
  replace RG := hid (RG.out.keep A)
  replace VS := hid (VS.out.keep A)
  replace VQ := hid (VQ.out.keep A)
  replace PP := hid (PP.out.trans (A.mono PP.out.size))
  have VR := hid (vb_new U1 [.int .i64 0, .slice none 0 0, .slice none 0 0, .int .i64 0] 25)
  have z2 : (U1.alloc (.cells #[.int .i64 0, .slice none 0 0, .slice none 0 0, .int .i64 0] 25)).heap.size = w.heap.size + 3 := by simp [z1]
  rw [z1] at VR
  obtain ⟨U2, hU2⟩ : ∃ X, U1.alloc (.cells #[.int .i64 0, .slice none 0 0, .slice none 0 0, .int .i64 0] 25) = X := ⟨_, rfl⟩
  rw [hU2] at z2 RU RV RB RG VS VQ VR PP
  try rw [hU2]
  clear A hU2
  obtain ⟨s0, s1, s2, s3⟩ := vb4 VS.out
  refine (specVmOk_any pc 0 _ _ 4 8 xs ys _ RU.out RV.out).mono ?_
  rw [HC0.out]
  rintro e w1 ⟨rfl, bb⟩
  clear s0 s1 s2 s3
  replace RU := hid (RU.out.keep bb)
  replace RV := hid (RV.out.keep bb)
  replace RB := hid (RB.out.keep bb)
  replace RG := hid (RG.out.keep bb)
  replace VS := hid (VS.out.keep bb)
  replace VQ := hid (VQ.out.keep bb)
  replace VR := hid (VR.out.keep bb)
  replace PP := hid (PP.out.trans (bb.mono PP.out.size))
  clear bb
  obtain ⟨q0, q1, q2, q3, q4, q5⟩ := vb6 VQ.out
  go_wp2_with fail
  clear q0 q1 q2 q3 q4 q5
  refine (askOk_any 3 y (p : Int) (g : Int) (f : Int) ba bc bs _ RB.out).mono ?_
  rw [HC1.out]
  rintro e w2 ⟨rfl, bb⟩
  replace RU := hid (RU.out.keep bb)
  replace RV := hid (RV.out.keep bb)
  replace RB := hid (RB.out.keep bb)
  replace RG := hid (RG.out.keep bb)
  replace VS := hid (VS.out.keep bb)
  replace VQ := hid (VQ.out.keep bb)
  replace VR := hid (VR.out.keep bb)
  replace PP := hid (PP.out.trans (bb.mono PP.out.size))
  clear bb
  go_wp2_with fail
  refine (specMsg_any _ got _ RG.out).mono ?_
  rw [HC2.out]
  rintro e w3 ⟨rfl, rfl⟩
  obtain ⟨s0, s1, s2, s3⟩ := vb4 VS.out
  go_wp2_with fail
  clear s0 s1 s2 s3
  refine (l6Copy_any pc 0 xs ys _ _ _ RU.out RV.out).mono ?_
  rintro e w4 ⟨u1, v1, rfl, o1, o2, ap, bb⟩
  clear RU RV RB VS
  have HLB := hid (VR.out.2.2)
  replace RG := hid (RG.out.keep bb)
  replace VQ := hid (VQ.out.keep bb)
  replace VR := hid (VR.out.keep bb)
  replace PP := hid (PP.out.trans (bb.mono PP.out.size))
  clear bb
  obtain ⟨L, hL⟩ : ∃ L, w3.heap.size = L := ⟨_, rfl⟩
  rw [hL] at o1 o2 HLB
  obtain ⟨x1, d1, rfl, e1⟩ := ownI_form o1
  obtain ⟨x2, d2, rfl, e2⟩ := ownI_form o2
  obtain ⟨gu, rfl⟩ : ∃ gu, x1 = some ⟨gu, 0, none⟩ := by rcases e1 with e1 | e1; omega; exact e1
  obtain ⟨gv, rfl⟩ : ∃ gv, x2 = some ⟨gv, 0, none⟩ := by rcases e2 with e2 | e2; omega; exact e2
  have HGU := hid (o1.blk gu rfl)
  have HGV := hid (o2.blk gv rfl)
  have AP := hid (show ¬ gv = gu from fun e => by subst e; exact ap gv rfl rfl)
  have O1 := hid o1
  have O2 := hid o2
  clear o1 o2 ap e1 e2
  obtain ⟨b, hb⟩ : ∃ b, w4.heap.size = b := ⟨_, rfl⟩
  have VX := hid (show VB (w4.alloc (.cells #[.int .i64 pc, .slice (some ⟨gu, 0, none⟩) 4 d1, .slice (some ⟨gv, 0, none⟩) 8 d2, .int .i64 0] 25)) b _ from by rw [← hb]; exact vb_new w4 [.int .i64 pc, .slice (some ⟨gu, 0, none⟩) 4 d1, .slice (some ⟨gv, 0, none⟩) 8 d2, .int .i64 0] 25)
  have A := below_alloc1 w4 (.cells #[.int .i64 pc, .slice (some ⟨gu, 0, none⟩) 4 d1, .slice (some ⟨gv, 0, none⟩) 8 d2, .int .i64 0] 25)
  replace RG := hid (RG.out.keep A)
  replace VQ := hid (VQ.out.keep A)
  replace VR := hid (VR.out.keep A)
  replace O1 := hid (O1.out.keep A)
  replace O2 := hid (O2.out.keep A)
  replace PP := hid (PP.out.trans (A.mono PP.out.size))
  clear A
  have HBX := hid (show L ≤ b ∧ gu < b ∧ gv < b by have := HGU.out; have := HGV.out; omega)
  have O1LO := hid (show L ≤ gu ∧ L ≤ gv from ⟨HGU.out.1, HGV.out.1⟩)
  have g0 : (0 : Int) ≤ (g : Int) := by omega
  have g4 : (g : Int) < 4 := by omega
  have f0 : (0 : Int) ≤ (f : Int) := by omega
  have f4 : (f : Int) < 4 := by omega
  go_upto_if 29 with fail
  obtain ⟨w5, hw5⟩ : ∃ X, w4.alloc (.cells #[.int .i64 pc, .slice (some ⟨gu, 0, none⟩) 4 d1, .slice (some ⟨gv, 0, none⟩) 8 d2, .int .i64 0] 25) = X := ⟨_, rfl⟩
  rw [hw5] at RG VQ VR O1 O2 VX PP
  try rw [hw5]
  try rw [hb]
  clear hw5 hb HGU HGV
  obtain ⟨q0, q1, q2, q3, q4, q5⟩ := vb6 VQ.out
  obtain ⟨xx0, xx1, xx2, xx3⟩ := vb4 VX.out
  obtain ⟨rc, rf, _, _⟩ := ownI_cell O1.out (i := g) (by have := O1.out.len; omega)
  obtain ⟨zz, hzz⟩ : ∃ z, (xs).getD g 0 = z := ⟨_, rfl⟩
  rw [hzz] at rc
  clear hzz
  go_upto_region 24 with fail
  clear rc rf q0 q1 q2 q3 q4 q5 xx0 xx1 xx2 xx3
  have CC : Chg (fun j => j = gu) w5 (w5.setCell ⟨gu, g, none⟩ (.int .i64 (0))) := (Chg.refl (fun j => j = gu) w5).set (p := ⟨gu, g, none⟩) rfl (.int .i64 (0))
  replace RG := hid (rd_chg RG.out CC (fun hl j hj e => by have e : j = gu := e; have := HGO.out hl j hj; have := O1LO.out; have := HLB.out; omega))
  replace VQ := hid (VQ.out.chg CC (fun e => by have e : _ = gu := e; have := HBX.out; have := HLB.out; have := O1LO.out; omega))
  replace VR := hid (VR.out.chg CC (fun e => by have e : _ = gu := e; have := HBX.out; have := HLB.out; have := O1LO.out; omega))
  replace O1 := hid ((ownI_set O1.out (i := g) (y := 0) (by have := O1.out.len; omega)))
  replace O2 := hid (O2.out.chg CC (fun j hj e => by have e : j = gu := e; simp [Value.ownBlock] at hj; have := AP.out; omega))
  replace VX := hid (VX.out.chg CC (fun e => by have e : _ = gu := e; have := HBX.out; have := HLB.out; have := O1LO.out; omega))
  replace PP := hid (below_chg PP.out CC PP.out.size (fun j hj => by have hj : j = gu := hj; have := O1LO.out; have := HLB.out; omega))
  obtain ⟨w6, hw6⟩ : ∃ X, (w5.setCell ⟨gu, g, none⟩ (.int .i64 (0))) = X := ⟨_, rfl⟩
  rw [hw6] at CC PP RG VQ VR O1 O2 VX
  try rw [hw6]
  clear hw6 CC
  obtain ⟨q0, q1, q2, q3, q4, q5⟩ := vb6 VQ.out
  obtain ⟨xx0, xx1, xx2, xx3⟩ := vb4 VX.out
  obtain ⟨rc, rf, _, _⟩ := ownI_cell O1.out (i := f) (by have := O1.out.len; omega)
  obtain ⟨zz, hzz⟩ : ∃ z, (xs.set g (0)).getD f 0 = z := ⟨_, rfl⟩
  rw [hzz] at rc
  clear hzz
  go_upto_region 25 with fail
  clear rc rf q0 q1 q2 q3 q4 q5 xx0 xx1 xx2 xx3
  have CC : Chg (fun j => j = gu) w6 (w6.setCell ⟨gu, f, none⟩ (.int .i64 (0))) := (Chg.refl (fun j => j = gu) w6).set (p := ⟨gu, f, none⟩) rfl (.int .i64 (0))
  replace RG := hid (rd_chg RG.out CC (fun hl j hj e => by have e : j = gu := e; have := HGO.out hl j hj; have := O1LO.out; have := HLB.out; omega))
  replace VQ := hid (VQ.out.chg CC (fun e => by have e : _ = gu := e; have := HBX.out; have := HLB.out; have := O1LO.out; omega))
  replace VR := hid (VR.out.chg CC (fun e => by have e : _ = gu := e; have := HBX.out; have := HLB.out; have := O1LO.out; omega))
  replace O1 := hid ((ownI_set O1.out (i := f) (y := 0) (by have := O1.out.len; omega)))
  replace O2 := hid (O2.out.chg CC (fun j hj e => by have e : j = gu := e; simp [Value.ownBlock] at hj; have := AP.out; omega))
  replace VX := hid (VX.out.chg CC (fun e => by have e : _ = gu := e; have := HBX.out; have := HLB.out; have := O1LO.out; omega))
  replace PP := hid (below_chg PP.out CC PP.out.size (fun j hj => by have hj : j = gu := hj; have := O1LO.out; have := HLB.out; omega))
  obtain ⟨w7, hw7⟩ : ∃ X, (w6.setCell ⟨gu, f, none⟩ (.int .i64 (0))) = X := ⟨_, rfl⟩
  rw [hw7] at CC PP RG VQ VR O1 O2 VX
  try rw [hw7]
  clear hw7 CC
  obtain ⟨xx0, xx1, xx2, xx3⟩ := vb4 VX.out
  obtain ⟨r0, r1, r2, r3⟩ := vb4 VR.out
  have fr := VR.out.2.1
  obtain ⟨e1, e2, e3, e4⟩ := give_end2 (pc := pc) (H := 0) (w := w) (B := w.heap.size + 2) (by omega) HLB.out PP.out VR.out O1.out O2.out
  have E1 := hid e1
  have E2 := hid e2
  have E3 := hid e3
  have E4 := hid e4
  have AQ := hid AP.out
  clear e1 e2 e3 e4 VR O1 O2 VX
  go_wp2_with fail
  refine bodyPost_ret (resGiveS _ rfl E1.out) rfl ?_
  exact ⟨_, _, rfl, E2.out, E3.out, (fun j hj e => by simp [Value.ownBlock] at hj e; have := AQ.out; omega), E4.out⟩
set_option maxHeartbeats 16000000 in
theorem sgive_reads1 (pc ht k y : Int) (p g f : Nat) (ba : Option Addr) (bc : Nat) (bs : List Int) (gv : Value) (got : List Int) (u v : Value) (xs ys : List Int) (w : World) (hu : RdI 1 w u 4 xs) (hv : RdI 1 w v 8 ys) (hb : Rd w (.slice ba bs.length bc) bs) (hgv : Rd w gv got) (hg : g < 4) (hf : f < 4) (hp : p ≤ 255) (h0 : ht = 0) (h1 : k = 3) (hl : got.length = 0) (hok : gvB pc 4 xs 8 ys ht k y bs.length (p : Int) (g : Int) (f : Int) got = true) :
    Calls Try.prog 24 #[.agg #[.int .i64 pc, u, v, .int .i64 ht], .agg #[.int .i64 k, .int .i64 y, .slice ba bs.length bc, .int .i64 (p : Int), .int .i64 (g : Int), .int .i64 (f : Int)], gv, .bool true] w fun e w' => GivePost true pc (0) ((xs.set g (rdF true got)).set f (rdG true got)) (ys) w e w' := by
  simp only [gvB, Bool.and_eq_true] at hok
  have HC0 := hid hok.1
  have HC1 := hid hok.2.1
  have HC2 := hid hok.2.2
  have LR := hid (show xs.length = 4 from by have := hu.1; omega)
  have LM := hid (show ys.length = 8 from by have := hv.1; omega)
  have RU := hid hu
  have RV := hid hv
  have RB := hid hb
  have RG := hid hgv
  obtain ⟨_, _, a1, c1, rfl, _⟩ := hu
  obtain ⟨_, _, a2, c2, rfl, _⟩ := hv
  obtain ⟨_, _, ga, gc, rfl, _⟩ := hgv
  have HGO := hid (rd_old RG.out)
  clear hb hok
  subst h0
  subst h1
  rw [show rdF true got = 0 by simp [rdF, hl], show rdG true got = 0 by simp [rdG, hl]]
  have dl : decide ((0 : Int) < (got.length : Int)) = false := by simp [hl]
  have HLZ := hid hl
  clear hl
  go_enter Try.func24, Try.ntmps24
  go_wp2_with fail
  have PP := hid (Below.refl w.heap.size w)
  have A := below_alloc1 w (.cells #[.int .i64 pc, .slice a1 4 c1, .slice a2 8 c2, .int .i64 0] 25)
  replace RU := hid (RU.out.keep A)
  replace RV := hid (RV.out.keep A)
  replace RB := hid (RB.out.keep A)
  replace RG := hid (RG.out.keep A)
  replace PP := hid (PP.out.trans (A.mono PP.out.size))
  have VS := hid (vb_new w [.int .i64 pc, .slice a1 4 c1, .slice a2 8 c2, .int .i64 0] 25)
  have z0 : (w.alloc (.cells #[.int .i64 pc, .slice a1 4 c1, .slice a2 8 c2, .int .i64 0] 25)).heap.size = w.heap.size + 1 := by simp
  obtain ⟨U0, hU0⟩ : ∃ X, w.alloc (.cells #[.int .i64 pc, .slice a1 4 c1, .slice a2 8 c2, .int .i64 0] 25) = X := ⟨_, rfl⟩
  rw [hU0] at z0 RU RV RB RG VS PP
  try rw [hU0]
  clear A hU0
  have A := below_alloc1 U0 (.cells #[.int .i64 3, .int .i64 y, .slice ba bs.length bc, .int .i64 (p : Int), .int .i64 (g : Int), .int .i64 (f : Int)] 30)
  replace RU := hid (RU.out.keep A)
  replace RV := hid (RV.out.keep A)
  replace RB := hid (RB.out.keep A)
  replace RG := hid (RG.out.keep A)
  replace VS := hid (VS.out.keep A)
  replace PP := hid (PP.out.trans (A.mono PP.out.size))
  have VQ := hid (vb_new U0 [.int .i64 3, .int .i64 y, .slice ba bs.length bc, .int .i64 (p : Int), .int .i64 (g : Int), .int .i64 (f : Int)] 30)
  have z1 : (U0.alloc (.cells #[.int .i64 3, .int .i64 y, .slice ba bs.length bc, .int .i64 (p : Int), .int .i64 (g : Int), .int .i64 (f : Int)] 30)).heap.size = w.heap.size + 2 := by simp [z0]
  rw [z0] at VQ
  obtain ⟨U1, hU1⟩ : ∃ X, U0.alloc (.cells #[.int .i64 3, .int .i64 y, .slice ba bs.length bc, .int .i64 (p : Int), .int .i64 (g : Int), .int .i64 (f : Int)] 30) = X := ⟨_, rfl⟩
  rw [hU1] at z1 RU RV RB RG VS VQ PP
  try rw [hU1]
  clear A hU1
  have A := below_alloc1 U1 (.cells #[.int .i64 0, .slice none 0 0, .slice none 0 0, .int .i64 0] 25)
  replace RU := hid (RU.out.keep A)
  replace RV := hid (RV.out.keep A)
  replace RB := hid (RB.out.keep A)
  replace RG := hid (RG.out.keep A)
  replace VS := hid (VS.out.keep A)
  replace VQ := hid (VQ.out.keep A)
  replace PP := hid (PP.out.trans (A.mono PP.out.size))
  have VR := hid (vb_new U1 [.int .i64 0, .slice none 0 0, .slice none 0 0, .int .i64 0] 25)
  have z2 : (U1.alloc (.cells #[.int .i64 0, .slice none 0 0, .slice none 0 0, .int .i64 0] 25)).heap.size = w.heap.size + 3 := by simp [z1]
  rw [z1] at VR
  obtain ⟨U2, hU2⟩ : ∃ X, U1.alloc (.cells #[.int .i64 0, .slice none 0 0, .slice none 0 0, .int .i64 0] 25) = X := ⟨_, rfl⟩
  rw [hU2] at z2 RU RV RB RG VS VQ VR PP
  try rw [hU2]
  clear A hU2
  obtain ⟨s0, s1, s2, s3⟩ := vb4 VS.out
  refine (specVmOk_any pc 0 _ _ 4 8 xs ys _ RU.out RV.out).mono ?_
  rw [HC0.out]
  rintro e w1 ⟨rfl, bb⟩
  clear s0 s1 s2 s3
  replace RU := hid (RU.out.keep bb)
  replace RV := hid (RV.out.keep bb)
  replace RB := hid (RB.out.keep bb)
  replace RG := hid (RG.out.keep bb)
  replace VS := hid (VS.out.keep bb)
  replace VQ := hid (VQ.out.keep bb)
  replace VR := hid (VR.out.keep bb)
  replace PP := hid (PP.out.trans (bb.mono PP.out.size))
  clear bb
  obtain ⟨q0, q1, q2, q3, q4, q5⟩ := vb6 VQ.out
  go_wp2_with fail
  clear q0 q1 q2 q3 q4 q5
  refine (askOk_any 3 y (p : Int) (g : Int) (f : Int) ba bc bs _ RB.out).mono ?_
  rw [HC1.out]
  rintro e w2 ⟨rfl, bb⟩
  replace RU := hid (RU.out.keep bb)
  replace RV := hid (RV.out.keep bb)
  replace RB := hid (RB.out.keep bb)
  replace RG := hid (RG.out.keep bb)
  replace VS := hid (VS.out.keep bb)
  replace VQ := hid (VQ.out.keep bb)
  replace VR := hid (VR.out.keep bb)
  replace PP := hid (PP.out.trans (bb.mono PP.out.size))
  clear bb
  go_wp2_with fail
  refine (specMsg_any _ got _ RG.out).mono ?_
  rw [HC2.out]
  rintro e w3 ⟨rfl, rfl⟩
  obtain ⟨s0, s1, s2, s3⟩ := vb4 VS.out
  go_wp2_with fail
  clear s0 s1 s2 s3
  refine (l6Copy_any pc 0 xs ys _ _ _ RU.out RV.out).mono ?_
  rintro e w4 ⟨u1, v1, rfl, o1, o2, ap, bb⟩
  clear RU RV RB VS
  have HLB := hid (VR.out.2.2)
  replace RG := hid (RG.out.keep bb)
  replace VQ := hid (VQ.out.keep bb)
  replace VR := hid (VR.out.keep bb)
  replace PP := hid (PP.out.trans (bb.mono PP.out.size))
  clear bb
  obtain ⟨L, hL⟩ : ∃ L, w3.heap.size = L := ⟨_, rfl⟩
  rw [hL] at o1 o2 HLB
  obtain ⟨x1, d1, rfl, e1⟩ := ownI_form o1
  obtain ⟨x2, d2, rfl, e2⟩ := ownI_form o2
  obtain ⟨gu, rfl⟩ : ∃ gu, x1 = some ⟨gu, 0, none⟩ := by rcases e1 with e1 | e1; omega; exact e1
  obtain ⟨gv, rfl⟩ : ∃ gv, x2 = some ⟨gv, 0, none⟩ := by rcases e2 with e2 | e2; omega; exact e2
  have HGU := hid (o1.blk gu rfl)
  have HGV := hid (o2.blk gv rfl)
  have AP := hid (show ¬ gv = gu from fun e => by subst e; exact ap gv rfl rfl)
  have O1 := hid o1
  have O2 := hid o2
  clear o1 o2 ap e1 e2
  obtain ⟨b, hb⟩ : ∃ b, w4.heap.size = b := ⟨_, rfl⟩
  have VX := hid (show VB (w4.alloc (.cells #[.int .i64 pc, .slice (some ⟨gu, 0, none⟩) 4 d1, .slice (some ⟨gv, 0, none⟩) 8 d2, .int .i64 0] 25)) b _ from by rw [← hb]; exact vb_new w4 [.int .i64 pc, .slice (some ⟨gu, 0, none⟩) 4 d1, .slice (some ⟨gv, 0, none⟩) 8 d2, .int .i64 0] 25)
  have A := below_alloc1 w4 (.cells #[.int .i64 pc, .slice (some ⟨gu, 0, none⟩) 4 d1, .slice (some ⟨gv, 0, none⟩) 8 d2, .int .i64 0] 25)
  replace RG := hid (RG.out.keep A)
  replace VQ := hid (VQ.out.keep A)
  replace VR := hid (VR.out.keep A)
  replace O1 := hid (O1.out.keep A)
  replace O2 := hid (O2.out.keep A)
  replace PP := hid (PP.out.trans (A.mono PP.out.size))
  clear A
  have HBX := hid (show L ≤ b ∧ gu < b ∧ gv < b by have := HGU.out; have := HGV.out; omega)
  have O1LO := hid (show L ≤ gu ∧ L ≤ gv from ⟨HGU.out.1, HGV.out.1⟩)
  have g0 : (0 : Int) ≤ (g : Int) := by omega
  have g4 : (g : Int) < 4 := by omega
  have f0 : (0 : Int) ≤ (f : Int) := by omega
  have f4 : (f : Int) < 4 := by omega
  go_upto_if 29 with fail
  obtain ⟨w5, hw5⟩ : ∃ X, w4.alloc (.cells #[.int .i64 pc, .slice (some ⟨gu, 0, none⟩) 4 d1, .slice (some ⟨gv, 0, none⟩) 8 d2, .int .i64 0] 25) = X := ⟨_, rfl⟩
  rw [hw5] at RG VQ VR O1 O2 VX PP
  try rw [hw5]
  try rw [hb]
  clear hw5 hb HGU HGV
  obtain ⟨q0, q1, q2, q3, q4, q5⟩ := vb6 VQ.out
  obtain ⟨xx0, xx1, xx2, xx3⟩ := vb4 VX.out
  have hl := HLZ.out
  obtain ⟨rc, rf, _, _⟩ := ownI_cell O1.out (i := g) (by have := O1.out.len; omega)
  obtain ⟨zz, hzz⟩ : ∃ z, (xs).getD g 0 = z := ⟨_, rfl⟩
  rw [hzz] at rc
  clear hzz
  go_upto_region 24 with fail
  clear rc rf q0 q1 q2 q3 q4 q5 xx0 xx1 xx2 xx3
  have CC : Chg (fun j => j = gu) w5 (w5.setCell ⟨gu, g, none⟩ (.int .i64 (0))) := (Chg.refl (fun j => j = gu) w5).set (p := ⟨gu, g, none⟩) rfl (.int .i64 (0))
  replace RG := hid (rd_chg RG.out CC (fun hl j hj e => by have e : j = gu := e; have := HGO.out hl j hj; have := O1LO.out; have := HLB.out; omega))
  replace VQ := hid (VQ.out.chg CC (fun e => by have e : _ = gu := e; have := HBX.out; have := HLB.out; have := O1LO.out; omega))
  replace VR := hid (VR.out.chg CC (fun e => by have e : _ = gu := e; have := HBX.out; have := HLB.out; have := O1LO.out; omega))
  replace O1 := hid ((ownI_set O1.out (i := g) (y := 0) (by have := O1.out.len; omega)))
  replace O2 := hid (O2.out.chg CC (fun j hj e => by have e : j = gu := e; simp [Value.ownBlock] at hj; have := AP.out; omega))
  replace VX := hid (VX.out.chg CC (fun e => by have e : _ = gu := e; have := HBX.out; have := HLB.out; have := O1LO.out; omega))
  replace PP := hid (below_chg PP.out CC PP.out.size (fun j hj => by have hj : j = gu := hj; have := O1LO.out; have := HLB.out; omega))
  obtain ⟨w6, hw6⟩ : ∃ X, (w5.setCell ⟨gu, g, none⟩ (.int .i64 (0))) = X := ⟨_, rfl⟩
  rw [hw6] at CC PP RG VQ VR O1 O2 VX
  try rw [hw6]
  clear hw6 CC
  obtain ⟨q0, q1, q2, q3, q4, q5⟩ := vb6 VQ.out
  obtain ⟨xx0, xx1, xx2, xx3⟩ := vb4 VX.out
  obtain ⟨rc, rf, _, _⟩ := ownI_cell O1.out (i := f) (by have := O1.out.len; omega)
  obtain ⟨zz, hzz⟩ : ∃ z, (xs.set g (0)).getD f 0 = z := ⟨_, rfl⟩
  rw [hzz] at rc
  clear hzz
  go_upto_region 25 with fail
  clear rc rf q0 q1 q2 q3 q4 q5 xx0 xx1 xx2 xx3
  have CC : Chg (fun j => j = gu) w6 (w6.setCell ⟨gu, f, none⟩ (.int .i64 (0))) := (Chg.refl (fun j => j = gu) w6).set (p := ⟨gu, f, none⟩) rfl (.int .i64 (0))
  replace RG := hid (rd_chg RG.out CC (fun hl j hj e => by have e : j = gu := e; have := HGO.out hl j hj; have := O1LO.out; have := HLB.out; omega))
  replace VQ := hid (VQ.out.chg CC (fun e => by have e : _ = gu := e; have := HBX.out; have := HLB.out; have := O1LO.out; omega))
  replace VR := hid (VR.out.chg CC (fun e => by have e : _ = gu := e; have := HBX.out; have := HLB.out; have := O1LO.out; omega))
  replace O1 := hid ((ownI_set O1.out (i := f) (y := 0) (by have := O1.out.len; omega)))
  replace O2 := hid (O2.out.chg CC (fun j hj e => by have e : j = gu := e; simp [Value.ownBlock] at hj; have := AP.out; omega))
  replace VX := hid (VX.out.chg CC (fun e => by have e : _ = gu := e; have := HBX.out; have := HLB.out; have := O1LO.out; omega))
  replace PP := hid (below_chg PP.out CC PP.out.size (fun j hj => by have hj : j = gu := hj; have := O1LO.out; have := HLB.out; omega))
  obtain ⟨w7, hw7⟩ : ∃ X, (w6.setCell ⟨gu, f, none⟩ (.int .i64 (0))) = X := ⟨_, rfl⟩
  rw [hw7] at CC PP RG VQ VR O1 O2 VX
  try rw [hw7]
  clear hw7 CC
  obtain ⟨xx0, xx1, xx2, xx3⟩ := vb4 VX.out
  obtain ⟨r0, r1, r2, r3⟩ := vb4 VR.out
  have fr := VR.out.2.1
  obtain ⟨e1, e2, e3, e4⟩ := give_end2 (pc := pc) (H := 0) (w := w) (B := w.heap.size + 2) (by omega) HLB.out PP.out VR.out O1.out O2.out
  have E1 := hid e1
  have E2 := hid e2
  have E3 := hid e3
  have E4 := hid e4
  have AQ := hid AP.out
  clear e1 e2 e3 e4 VR O1 O2 VX
  go_wp2_with fail
  refine bodyPost_ret (resGiveS _ rfl E1.out) rfl ?_
  exact ⟨_, _, rfl, E2.out, E3.out, (fun j hj e => by simp [Value.ownBlock] at hj e; have := AQ.out; omega), E4.out⟩
set_option maxHeartbeats 16000000 in
theorem sgive_reads2 (pc ht k y : Int) (p g f : Nat) (ba : Option Addr) (bc : Nat) (bs : List Int) (gv : Value) (got : List Int) (u v : Value) (xs ys : List Int) (w : World) (hu : RdI 1 w u 4 xs) (hv : RdI 1 w v 8 ys) (hb : Rd w (.slice ba bs.length bc) bs) (hgv : Rd w gv got) (hg : g < 4) (hf : f < 4) (hp : p ≤ 255) (h0 : ht = 0) (h1 : k = 3) (hl : 0 < got.length) (hok : gvB pc 4 xs 8 ys ht k y bs.length (p : Int) (g : Int) (f : Int) got = true) :
    Calls Try.prog 24 #[.agg #[.int .i64 pc, u, v, .int .i64 ht], .agg #[.int .i64 k, .int .i64 y, .slice ba bs.length bc, .int .i64 (p : Int), .int .i64 (g : Int), .int .i64 (f : Int)], gv, .bool true] w fun e w' => GivePost true pc (0) ((xs.set g (rdF true got)).set f (rdG true got)) (ys) w e w' := by
  simp only [gvB, Bool.and_eq_true] at hok
  have HC0 := hid hok.1
  have HC1 := hid hok.2.1
  have HC2 := hid hok.2.2
  have LR := hid (show xs.length = 4 from by have := hu.1; omega)
  have LM := hid (show ys.length = 8 from by have := hv.1; omega)
  have RU := hid hu
  have RV := hid hv
  have RB := hid hb
  have RG := hid hgv
  obtain ⟨_, _, a1, c1, rfl, _⟩ := hu
  obtain ⟨_, _, a2, c2, rfl, _⟩ := hv
  obtain ⟨_, _, ga, gc, rfl, _⟩ := hgv
  have HGO := hid (rd_old RG.out)
  clear hb hok
  subst h0
  subst h1
  obtain ⟨q, hq⟩ : ∃ q, got.getD 0 0 = q := ⟨_, rfl⟩
  rw [show rdF true got = q by simp only [rdF, hq]; simp [hl], show rdG true got = 1 by simp [rdG, hl]]
  have hqr : 0 ≤ q ∧ q ≤ 255 := by rw [← hq]; exact RG.out.1 _ (mem_getD0 hl)
  have hw8 : IntKind.i64.wrap q = q := by rw [IntKind.wrap_i64]; omega
  have HQV := hid hq
  clear hq
  have dl : decide ((0 : Int) < (got.length : Int)) = true := by simp; omega
  have il : (0 : Int) < (got.length : Int) := by omega
  go_enter Try.func24, Try.ntmps24
  go_wp2_with fail
  have PP := hid (Below.refl w.heap.size w)
  have A := below_alloc1 w (.cells #[.int .i64 pc, .slice a1 4 c1, .slice a2 8 c2, .int .i64 0] 25)
  replace RU := hid (RU.out.keep A)
  replace RV := hid (RV.out.keep A)
  replace RB := hid (RB.out.keep A)
  replace RG := hid (RG.out.keep A)
  replace PP := hid (PP.out.trans (A.mono PP.out.size))
  have VS := hid (vb_new w [.int .i64 pc, .slice a1 4 c1, .slice a2 8 c2, .int .i64 0] 25)
  have z0 : (w.alloc (.cells #[.int .i64 pc, .slice a1 4 c1, .slice a2 8 c2, .int .i64 0] 25)).heap.size = w.heap.size + 1 := by simp
  obtain ⟨U0, hU0⟩ : ∃ X, w.alloc (.cells #[.int .i64 pc, .slice a1 4 c1, .slice a2 8 c2, .int .i64 0] 25) = X := ⟨_, rfl⟩
  rw [hU0] at z0 RU RV RB RG VS PP
  try rw [hU0]
  clear A hU0
  have A := below_alloc1 U0 (.cells #[.int .i64 3, .int .i64 y, .slice ba bs.length bc, .int .i64 (p : Int), .int .i64 (g : Int), .int .i64 (f : Int)] 30)
  replace RU := hid (RU.out.keep A)
  replace RV := hid (RV.out.keep A)
  replace RB := hid (RB.out.keep A)
  replace RG := hid (RG.out.keep A)
  replace VS := hid (VS.out.keep A)
  replace PP := hid (PP.out.trans (A.mono PP.out.size))
  have VQ := hid (vb_new U0 [.int .i64 3, .int .i64 y, .slice ba bs.length bc, .int .i64 (p : Int), .int .i64 (g : Int), .int .i64 (f : Int)] 30)
  have z1 : (U0.alloc (.cells #[.int .i64 3, .int .i64 y, .slice ba bs.length bc, .int .i64 (p : Int), .int .i64 (g : Int), .int .i64 (f : Int)] 30)).heap.size = w.heap.size + 2 := by simp [z0]
  rw [z0] at VQ
  obtain ⟨U1, hU1⟩ : ∃ X, U0.alloc (.cells #[.int .i64 3, .int .i64 y, .slice ba bs.length bc, .int .i64 (p : Int), .int .i64 (g : Int), .int .i64 (f : Int)] 30) = X := ⟨_, rfl⟩
  rw [hU1] at z1 RU RV RB RG VS VQ PP
  try rw [hU1]
  clear A hU1
  have A := below_alloc1 U1 (.cells #[.int .i64 0, .slice none 0 0, .slice none 0 0, .int .i64 0] 25)
  replace RU := hid (RU.out.keep A)
  replace RV := hid (RV.out.keep A)
  replace RB := hid (RB.out.keep A)
  replace RG := hid (RG.out.keep A)
  replace VS := hid (VS.out.keep A)
  replace VQ := hid (VQ.out.keep A)
  replace PP := hid (PP.out.trans (A.mono PP.out.size))
  have VR := hid (vb_new U1 [.int .i64 0, .slice none 0 0, .slice none 0 0, .int .i64 0] 25)
  have z2 : (U1.alloc (.cells #[.int .i64 0, .slice none 0 0, .slice none 0 0, .int .i64 0] 25)).heap.size = w.heap.size + 3 := by simp [z1]
  rw [z1] at VR
  obtain ⟨U2, hU2⟩ : ∃ X, U1.alloc (.cells #[.int .i64 0, .slice none 0 0, .slice none 0 0, .int .i64 0] 25) = X := ⟨_, rfl⟩
  rw [hU2] at z2 RU RV RB RG VS VQ VR PP
  try rw [hU2]
  clear A hU2
  obtain ⟨s0, s1, s2, s3⟩ := vb4 VS.out
  refine (specVmOk_any pc 0 _ _ 4 8 xs ys _ RU.out RV.out).mono ?_
  rw [HC0.out]
  rintro e w1 ⟨rfl, bb⟩
  clear s0 s1 s2 s3
  replace RU := hid (RU.out.keep bb)
  replace RV := hid (RV.out.keep bb)
  replace RB := hid (RB.out.keep bb)
  replace RG := hid (RG.out.keep bb)
  replace VS := hid (VS.out.keep bb)
  replace VQ := hid (VQ.out.keep bb)
  replace VR := hid (VR.out.keep bb)
  replace PP := hid (PP.out.trans (bb.mono PP.out.size))
  clear bb
  obtain ⟨q0, q1, q2, q3, q4, q5⟩ := vb6 VQ.out
  go_wp2_with fail
  clear q0 q1 q2 q3 q4 q5
  refine (askOk_any 3 y (p : Int) (g : Int) (f : Int) ba bc bs _ RB.out).mono ?_
  rw [HC1.out]
  rintro e w2 ⟨rfl, bb⟩
  replace RU := hid (RU.out.keep bb)
  replace RV := hid (RV.out.keep bb)
  replace RB := hid (RB.out.keep bb)
  replace RG := hid (RG.out.keep bb)
  replace VS := hid (VS.out.keep bb)
  replace VQ := hid (VQ.out.keep bb)
  replace VR := hid (VR.out.keep bb)
  replace PP := hid (PP.out.trans (bb.mono PP.out.size))
  clear bb
  go_wp2_with fail
  refine (specMsg_any _ got _ RG.out).mono ?_
  rw [HC2.out]
  rintro e w3 ⟨rfl, rfl⟩
  obtain ⟨s0, s1, s2, s3⟩ := vb4 VS.out
  go_wp2_with fail
  clear s0 s1 s2 s3
  refine (l6Copy_any pc 0 xs ys _ _ _ RU.out RV.out).mono ?_
  rintro e w4 ⟨u1, v1, rfl, o1, o2, ap, bb⟩
  clear RU RV RB VS
  have HLB := hid (VR.out.2.2)
  replace RG := hid (RG.out.keep bb)
  replace VQ := hid (VQ.out.keep bb)
  replace VR := hid (VR.out.keep bb)
  replace PP := hid (PP.out.trans (bb.mono PP.out.size))
  clear bb
  obtain ⟨L, hL⟩ : ∃ L, w3.heap.size = L := ⟨_, rfl⟩
  rw [hL] at o1 o2 HLB
  obtain ⟨x1, d1, rfl, e1⟩ := ownI_form o1
  obtain ⟨x2, d2, rfl, e2⟩ := ownI_form o2
  obtain ⟨gu, rfl⟩ : ∃ gu, x1 = some ⟨gu, 0, none⟩ := by rcases e1 with e1 | e1; omega; exact e1
  obtain ⟨gv, rfl⟩ : ∃ gv, x2 = some ⟨gv, 0, none⟩ := by rcases e2 with e2 | e2; omega; exact e2
  have HGU := hid (o1.blk gu rfl)
  have HGV := hid (o2.blk gv rfl)
  have AP := hid (show ¬ gv = gu from fun e => by subst e; exact ap gv rfl rfl)
  have O1 := hid o1
  have O2 := hid o2
  clear o1 o2 ap e1 e2
  obtain ⟨b, hb⟩ : ∃ b, w4.heap.size = b := ⟨_, rfl⟩
  have VX := hid (show VB (w4.alloc (.cells #[.int .i64 pc, .slice (some ⟨gu, 0, none⟩) 4 d1, .slice (some ⟨gv, 0, none⟩) 8 d2, .int .i64 0] 25)) b _ from by rw [← hb]; exact vb_new w4 [.int .i64 pc, .slice (some ⟨gu, 0, none⟩) 4 d1, .slice (some ⟨gv, 0, none⟩) 8 d2, .int .i64 0] 25)
  have A := below_alloc1 w4 (.cells #[.int .i64 pc, .slice (some ⟨gu, 0, none⟩) 4 d1, .slice (some ⟨gv, 0, none⟩) 8 d2, .int .i64 0] 25)
  replace RG := hid (RG.out.keep A)
  replace VQ := hid (VQ.out.keep A)
  replace VR := hid (VR.out.keep A)
  replace O1 := hid (O1.out.keep A)
  replace O2 := hid (O2.out.keep A)
  replace PP := hid (PP.out.trans (A.mono PP.out.size))
  clear A
  have HBX := hid (show L ≤ b ∧ gu < b ∧ gv < b by have := HGU.out; have := HGV.out; omega)
  have O1LO := hid (show L ≤ gu ∧ L ≤ gv from ⟨HGU.out.1, HGV.out.1⟩)
  have g0 : (0 : Int) ≤ (g : Int) := by omega
  have g4 : (g : Int) < 4 := by omega
  have f0 : (0 : Int) ≤ (f : Int) := by omega
  have f4 : (f : Int) < 4 := by omega
  go_upto_if 29 with fail
  obtain ⟨w5, hw5⟩ : ∃ X, w4.alloc (.cells #[.int .i64 pc, .slice (some ⟨gu, 0, none⟩) 4 d1, .slice (some ⟨gv, 0, none⟩) 8 d2, .int .i64 0] 25) = X := ⟨_, rfl⟩
  rw [hw5] at RG VQ VR O1 O2 VX PP
  try rw [hw5]
  try rw [hb]
  clear hw5 hb HGU HGV
  obtain ⟨q0, q1, q2, q3, q4, q5⟩ := vb6 VQ.out
  obtain ⟨xx0, xx1, xx2, xx3⟩ := vb4 VX.out
  obtain ⟨B, off, rfl, hgc⟩ : ∃ B off, ga = some ⟨B, off, none⟩ ∧ ∀ i, i < got.length → w5.cell? ⟨B, off + i, none⟩ = some (.int .u8 (got.getD i 0)) := by
    obtain ⟨_, _, ga', gc', he, h3⟩ := RG.out
    simp only [Value.slice.injEq, true_and] at he
    obtain ⟨rfl, rfl⟩ := he
    rcases h3 with h3 | h3
    · rw [h3] at hl; simp at hl
    · exact h3
  have cg := hgc 0 hl
  rw [HQV.out, Nat.add_zero] at cg
  clear hgc
  obtain ⟨rc, rf, _, _⟩ := ownI_cell O1.out (i := g) (by have := O1.out.len; omega)
  obtain ⟨zz, hzz⟩ : ∃ z, (xs).getD g 0 = z := ⟨_, rfl⟩
  rw [hzz] at rc
  clear hzz
  go_wp2_with fail
  go_region
  clear rc rf q0 q1 q2 q3 q4 q5 xx0 xx1 xx2 xx3 cg
  have CC : Chg (fun j => j = gu) w5 (w5.setCell ⟨gu, g, none⟩ (.int .i64 (q))).drew := ((Chg.refl (fun j => j = gu) w5).set (p := ⟨gu, g, none⟩) rfl (.int .i64 (q))).dr
  replace RG := hid (rd_chg RG.out CC (fun hl j hj e => by have e : j = gu := e; have := HGO.out hl j hj; have := O1LO.out; have := HLB.out; omega))
  replace VQ := hid (VQ.out.chg CC (fun e => by have e : _ = gu := e; have := HBX.out; have := HLB.out; have := O1LO.out; omega))
  replace VR := hid (VR.out.chg CC (fun e => by have e : _ = gu := e; have := HBX.out; have := HLB.out; have := O1LO.out; omega))
  replace O1 := hid ((ownI_set O1.out (i := g) (y := q) (by have := O1.out.len; omega)).keep (Below.refl _ _).drew)
  replace O2 := hid (O2.out.chg CC (fun j hj e => by have e : j = gu := e; simp [Value.ownBlock] at hj; have := AP.out; omega))
  replace VX := hid (VX.out.chg CC (fun e => by have e : _ = gu := e; have := HBX.out; have := HLB.out; have := O1LO.out; omega))
  replace PP := hid (below_chg PP.out CC PP.out.size (fun j hj => by have hj : j = gu := hj; have := O1LO.out; have := HLB.out; omega))
  obtain ⟨w6, hw6⟩ : ∃ X, (w5.setCell ⟨gu, g, none⟩ (.int .i64 (q))).drew = X := ⟨_, rfl⟩
  rw [hw6] at CC PP RG VQ VR O1 O2 VX
  try rw [hw6]
  clear hw6 CC
  obtain ⟨q0, q1, q2, q3, q4, q5⟩ := vb6 VQ.out
  obtain ⟨xx0, xx1, xx2, xx3⟩ := vb4 VX.out
  obtain ⟨rc, rf, _, _⟩ := ownI_cell O1.out (i := f) (by have := O1.out.len; omega)
  obtain ⟨zz, hzz⟩ : ∃ z, (xs.set g (q)).getD f 0 = z := ⟨_, rfl⟩
  rw [hzz] at rc
  clear hzz
  go_upto_region 25 with fail
  clear rc rf q0 q1 q2 q3 q4 q5 xx0 xx1 xx2 xx3
  have CC : Chg (fun j => j = gu) w6 (w6.setCell ⟨gu, f, none⟩ (.int .i64 (1))) := (Chg.refl (fun j => j = gu) w6).set (p := ⟨gu, f, none⟩) rfl (.int .i64 (1))
  replace RG := hid (rd_chg RG.out CC (fun hl j hj e => by have e : j = gu := e; have := HGO.out hl j hj; have := O1LO.out; have := HLB.out; omega))
  replace VQ := hid (VQ.out.chg CC (fun e => by have e : _ = gu := e; have := HBX.out; have := HLB.out; have := O1LO.out; omega))
  replace VR := hid (VR.out.chg CC (fun e => by have e : _ = gu := e; have := HBX.out; have := HLB.out; have := O1LO.out; omega))
  replace O1 := hid ((ownI_set O1.out (i := f) (y := 1) (by have := O1.out.len; omega)))
  replace O2 := hid (O2.out.chg CC (fun j hj e => by have e : j = gu := e; simp [Value.ownBlock] at hj; have := AP.out; omega))
  replace VX := hid (VX.out.chg CC (fun e => by have e : _ = gu := e; have := HBX.out; have := HLB.out; have := O1LO.out; omega))
  replace PP := hid (below_chg PP.out CC PP.out.size (fun j hj => by have hj : j = gu := hj; have := O1LO.out; have := HLB.out; omega))
  obtain ⟨w7, hw7⟩ : ∃ X, (w6.setCell ⟨gu, f, none⟩ (.int .i64 (1))) = X := ⟨_, rfl⟩
  rw [hw7] at CC PP RG VQ VR O1 O2 VX
  try rw [hw7]
  clear hw7 CC
  obtain ⟨xx0, xx1, xx2, xx3⟩ := vb4 VX.out
  obtain ⟨r0, r1, r2, r3⟩ := vb4 VR.out
  have fr := VR.out.2.1
  obtain ⟨e1, e2, e3, e4⟩ := give_end2 (pc := pc) (H := 0) (w := w) (B := w.heap.size + 2) (by omega) HLB.out PP.out VR.out O1.out O2.out
  have E1 := hid e1
  have E2 := hid e2
  have E3 := hid e3
  have E4 := hid e4
  have AQ := hid AP.out
  clear e1 e2 e3 e4 VR O1 O2 VX
  go_wp2_with fail
  refine bodyPost_ret (resGiveS _ rfl E1.out) rfl ?_
  exact ⟨_, _, rfl, E2.out, E3.out, (fun j hj e => by simp [Value.ownBlock] at hj e; have := AQ.out; omega), E4.out⟩
set_option maxHeartbeats 16000000 in
theorem sgive_other (pc ht k y : Int) (p g f : Nat) (ba : Option Addr) (bc : Nat) (bs : List Int) (gv : Value) (got : List Int) (yes : Bool) (u v : Value) (xs ys : List Int) (w : World) (hu : RdI 1 w u 4 xs) (hv : RdI 1 w v 8 ys) (hb : Rd w (.slice ba bs.length bc) bs) (hgv : Rd w gv got) (hg : g < 4) (hf : f < 4) (hp : p ≤ 255) (h0 : ht = 0) (h1 : ¬ k = 1) (h2 : ¬ k = 2) (h3 : ¬ k = 3) (hok : gvB pc 4 xs 8 ys ht k y bs.length (p : Int) (g : Int) (f : Int) got = true) :
    Calls Try.prog 24 #[.agg #[.int .i64 pc, u, v, .int .i64 ht], .agg #[.int .i64 k, .int .i64 y, .slice ba bs.length bc, .int .i64 (p : Int), .int .i64 (g : Int), .int .i64 (f : Int)], gv, .bool yes] w fun e w' => GivePost true pc (0) (xs) (ys) w e w' := by
  simp only [gvB, Bool.and_eq_true] at hok
  have HC0 := hid hok.1
  have HC1 := hid hok.2.1
  have HC2 := hid hok.2.2
  have LR := hid (show xs.length = 4 from by have := hu.1; omega)
  have LM := hid (show ys.length = 8 from by have := hv.1; omega)
  have RU := hid hu
  have RV := hid hv
  have RB := hid hb
  have RG := hid hgv
  obtain ⟨_, _, a1, c1, rfl, _⟩ := hu
  obtain ⟨_, _, a2, c2, rfl, _⟩ := hv
  obtain ⟨_, _, ga, gc, rfl, _⟩ := hgv
  have HGO := hid (rd_old RG.out)
  clear hb hok
  subst h0
  have d1 : (k == 1) = false := by simpa using h1
  have d2 : (k == 2) = false := by simpa using h2
  have d3 : (k == 3) = false := by simpa using h3
  go_enter Try.func24, Try.ntmps24
  go_wp2_with fail
  have PP := hid (Below.refl w.heap.size w)
  have A := below_alloc1 w (.cells #[.int .i64 pc, .slice a1 4 c1, .slice a2 8 c2, .int .i64 0] 25)
  replace RU := hid (RU.out.keep A)
  replace RV := hid (RV.out.keep A)
  replace RB := hid (RB.out.keep A)
  replace RG := hid (RG.out.keep A)
  replace PP := hid (PP.out.trans (A.mono PP.out.size))
  have VS := hid (vb_new w [.int .i64 pc, .slice a1 4 c1, .slice a2 8 c2, .int .i64 0] 25)
  have z0 : (w.alloc (.cells #[.int .i64 pc, .slice a1 4 c1, .slice a2 8 c2, .int .i64 0] 25)).heap.size = w.heap.size + 1 := by simp
  obtain ⟨U0, hU0⟩ : ∃ X, w.alloc (.cells #[.int .i64 pc, .slice a1 4 c1, .slice a2 8 c2, .int .i64 0] 25) = X := ⟨_, rfl⟩
  rw [hU0] at z0 RU RV RB RG VS PP
  try rw [hU0]
  clear A hU0
  have A := below_alloc1 U0 (.cells #[.int .i64 k, .int .i64 y, .slice ba bs.length bc, .int .i64 (p : Int), .int .i64 (g : Int), .int .i64 (f : Int)] 30)
  replace RU := hid (RU.out.keep A)
  replace RV := hid (RV.out.keep A)
  replace RB := hid (RB.out.keep A)
  replace RG := hid (RG.out.keep A)
  replace VS := hid (VS.out.keep A)
  replace PP := hid (PP.out.trans (A.mono PP.out.size))
  have VQ := hid (vb_new U0 [.int .i64 k, .int .i64 y, .slice ba bs.length bc, .int .i64 (p : Int), .int .i64 (g : Int), .int .i64 (f : Int)] 30)
  have z1 : (U0.alloc (.cells #[.int .i64 k, .int .i64 y, .slice ba bs.length bc, .int .i64 (p : Int), .int .i64 (g : Int), .int .i64 (f : Int)] 30)).heap.size = w.heap.size + 2 := by simp [z0]
  rw [z0] at VQ
  obtain ⟨U1, hU1⟩ : ∃ X, U0.alloc (.cells #[.int .i64 k, .int .i64 y, .slice ba bs.length bc, .int .i64 (p : Int), .int .i64 (g : Int), .int .i64 (f : Int)] 30) = X := ⟨_, rfl⟩
  rw [hU1] at z1 RU RV RB RG VS VQ PP
  try rw [hU1]
  clear A hU1
  have A := below_alloc1 U1 (.cells #[.int .i64 0, .slice none 0 0, .slice none 0 0, .int .i64 0] 25)
  replace RU := hid (RU.out.keep A)
  replace RV := hid (RV.out.keep A)
  replace RB := hid (RB.out.keep A)
  replace RG := hid (RG.out.keep A)
  replace VS := hid (VS.out.keep A)
  replace VQ := hid (VQ.out.keep A)
  replace PP := hid (PP.out.trans (A.mono PP.out.size))
  have VR := hid (vb_new U1 [.int .i64 0, .slice none 0 0, .slice none 0 0, .int .i64 0] 25)
  have z2 : (U1.alloc (.cells #[.int .i64 0, .slice none 0 0, .slice none 0 0, .int .i64 0] 25)).heap.size = w.heap.size + 3 := by simp [z1]
  rw [z1] at VR
  obtain ⟨U2, hU2⟩ : ∃ X, U1.alloc (.cells #[.int .i64 0, .slice none 0 0, .slice none 0 0, .int .i64 0] 25) = X := ⟨_, rfl⟩
  rw [hU2] at z2 RU RV RB RG VS VQ VR PP
  try rw [hU2]
  clear A hU2
  obtain ⟨s0, s1, s2, s3⟩ := vb4 VS.out
  refine (specVmOk_any pc 0 _ _ 4 8 xs ys _ RU.out RV.out).mono ?_
  rw [HC0.out]
  rintro e w1 ⟨rfl, bb⟩
  clear s0 s1 s2 s3
  replace RU := hid (RU.out.keep bb)
  replace RV := hid (RV.out.keep bb)
  replace RB := hid (RB.out.keep bb)
  replace RG := hid (RG.out.keep bb)
  replace VS := hid (VS.out.keep bb)
  replace VQ := hid (VQ.out.keep bb)
  replace VR := hid (VR.out.keep bb)
  replace PP := hid (PP.out.trans (bb.mono PP.out.size))
  clear bb
  obtain ⟨q0, q1, q2, q3, q4, q5⟩ := vb6 VQ.out
  go_wp2_with fail
  clear q0 q1 q2 q3 q4 q5
  refine (askOk_any k y (p : Int) (g : Int) (f : Int) ba bc bs _ RB.out).mono ?_
  rw [HC1.out]
  rintro e w2 ⟨rfl, bb⟩
  replace RU := hid (RU.out.keep bb)
  replace RV := hid (RV.out.keep bb)
  replace RB := hid (RB.out.keep bb)
  replace RG := hid (RG.out.keep bb)
  replace VS := hid (VS.out.keep bb)
  replace VQ := hid (VQ.out.keep bb)
  replace VR := hid (VR.out.keep bb)
  replace PP := hid (PP.out.trans (bb.mono PP.out.size))
  clear bb
  go_wp2_with fail
  refine (specMsg_any _ got _ RG.out).mono ?_
  rw [HC2.out]
  rintro e w3 ⟨rfl, rfl⟩
  obtain ⟨s0, s1, s2, s3⟩ := vb4 VS.out
  go_wp2_with fail
  clear s0 s1 s2 s3
  refine (l6Copy_any pc 0 xs ys _ _ _ RU.out RV.out).mono ?_
  rintro e w4 ⟨u1, v1, rfl, o1, o2, ap, bb⟩
  clear RU RV RB VS
  have HLB := hid (VR.out.2.2)
  replace RG := hid (RG.out.keep bb)
  replace VQ := hid (VQ.out.keep bb)
  replace VR := hid (VR.out.keep bb)
  replace PP := hid (PP.out.trans (bb.mono PP.out.size))
  clear bb
  obtain ⟨L, hL⟩ : ∃ L, w3.heap.size = L := ⟨_, rfl⟩
  rw [hL] at o1 o2 HLB
  obtain ⟨x1, d1, rfl, e1⟩ := ownI_form o1
  obtain ⟨x2, d2, rfl, e2⟩ := ownI_form o2
  obtain ⟨gu, rfl⟩ : ∃ gu, x1 = some ⟨gu, 0, none⟩ := by rcases e1 with e1 | e1; omega; exact e1
  obtain ⟨gv, rfl⟩ : ∃ gv, x2 = some ⟨gv, 0, none⟩ := by rcases e2 with e2 | e2; omega; exact e2
  have HGU := hid (o1.blk gu rfl)
  have HGV := hid (o2.blk gv rfl)
  have AP := hid (show ¬ gv = gu from fun e => by subst e; exact ap gv rfl rfl)
  have O1 := hid o1
  have O2 := hid o2
  clear o1 o2 ap e1 e2
  obtain ⟨b, hb⟩ : ∃ b, w4.heap.size = b := ⟨_, rfl⟩
  have VX := hid (show VB (w4.alloc (.cells #[.int .i64 pc, .slice (some ⟨gu, 0, none⟩) 4 d1, .slice (some ⟨gv, 0, none⟩) 8 d2, .int .i64 0] 25)) b _ from by rw [← hb]; exact vb_new w4 [.int .i64 pc, .slice (some ⟨gu, 0, none⟩) 4 d1, .slice (some ⟨gv, 0, none⟩) 8 d2, .int .i64 0] 25)
  have A := below_alloc1 w4 (.cells #[.int .i64 pc, .slice (some ⟨gu, 0, none⟩) 4 d1, .slice (some ⟨gv, 0, none⟩) 8 d2, .int .i64 0] 25)
  replace RG := hid (RG.out.keep A)
  replace VQ := hid (VQ.out.keep A)
  replace VR := hid (VR.out.keep A)
  replace O1 := hid (O1.out.keep A)
  replace O2 := hid (O2.out.keep A)
  replace PP := hid (PP.out.trans (A.mono PP.out.size))
  clear A
  have HBX := hid (show L ≤ b ∧ gu < b ∧ gv < b by have := HGU.out; have := HGV.out; omega)
  have O1LO := hid (show L ≤ gu ∧ L ≤ gv from ⟨HGU.out.1, HGV.out.1⟩)
  go_upto_if 29 with fail
  obtain ⟨w5, hw5⟩ : ∃ X, w4.alloc (.cells #[.int .i64 pc, .slice (some ⟨gu, 0, none⟩) 4 d1, .slice (some ⟨gv, 0, none⟩) 8 d2, .int .i64 0] 25) = X := ⟨_, rfl⟩
  rw [hw5] at RG VQ VR O1 O2 VX PP
  try rw [hw5]
  try rw [hb]
  clear hw5 hb HGU HGV
  obtain ⟨q0, q1, q2, q3, q4, q5⟩ := vb6 VQ.out
  obtain ⟨xx0, xx1, xx2, xx3⟩ := vb4 VX.out
  go_upto_region 25 with fail
  clear q0 q1 q2 q3 q4 q5 xx0 xx1 xx2 xx3
  obtain ⟨xx0, xx1, xx2, xx3⟩ := vb4 VX.out
  obtain ⟨r0, r1, r2, r3⟩ := vb4 VR.out
  have fr := VR.out.2.1
  obtain ⟨e1, e2, e3, e4⟩ := give_end2 (pc := pc) (H := 0) (w := w) (B := w.heap.size + 2) (by omega) HLB.out PP.out VR.out O1.out O2.out
  have E1 := hid e1
  have E2 := hid e2
  have E3 := hid e3
  have E4 := hid e4
  have AQ := hid AP.out
  clear e1 e2 e3 e4 VR O1 O2 VX
  go_wp2_with fail
  refine bodyPost_ret (resGiveS _ rfl E1.out) rfl ?_
  exact ⟨_, _, rfl, E2.out, E3.out, (fun j hj e => by simp [Value.ownBlock] at hj e; have := AQ.out; omega), E4.out⟩
set_option maxHeartbeats 16000000 in
theorem sgive_yes (pc ht k y : Int) (p g f : Nat) (ba : Option Addr) (bc : Nat) (bs : List Int) (gv : Value) (got : List Int) (u v : Value) (xs ys : List Int) (w : World) (hu : RdI 1 w u 4 xs) (hv : RdI 1 w v 8 ys) (hb : Rd w (.slice ba bs.length bc) bs) (hgv : Rd w gv got) (hg : g < 4) (hf : f < 4) (hp : p ≤ 255) (h0 : ht = 0) (h1 : k = 2) (hl : p + got.length ≤ 8) (hok : gvB pc 4 xs 8 ys ht k y bs.length (p : Int) (g : Int) (f : Int) got = true) :
    Calls Try.prog 24 #[.agg #[.int .i64 pc, u, v, .int .i64 ht], .agg #[.int .i64 k, .int .i64 y, .slice ba bs.length bc, .int .i64 (p : Int), .int .i64 (g : Int), .int .i64 (f : Int)], gv, .bool true] w fun e w' => GivePost true pc (0) (xs.set g ((got.length : Int) + 1)) (layI ys p got got.length) w e w' := by
  simp only [gvB, Bool.and_eq_true] at hok
  have HC0 := hid hok.1
  have HC1 := hid hok.2.1
  have HC2 := hid hok.2.2
  have LR := hid (show xs.length = 4 from by have := hu.1; omega)
  have LM := hid (show ys.length = 8 from by have := hv.1; omega)
  have RU := hid hu
  have RV := hid hv
  have RB := hid hb
  have RG := hid hgv
  obtain ⟨_, _, a1, c1, rfl, _⟩ := hu
  obtain ⟨_, _, a2, c2, rfl, _⟩ := hv
  obtain ⟨_, _, ga, gc, rfl, _⟩ := hgv
  have HGO := hid (rd_old RG.out)
  clear hb hok
  subst h0
  subst h1
  go_enter Try.func24, Try.ntmps24
  go_wp2_with fail
  have PP := hid (Below.refl w.heap.size w)
  have A := below_alloc1 w (.cells #[.int .i64 pc, .slice a1 4 c1, .slice a2 8 c2, .int .i64 0] 25)
  replace RU := hid (RU.out.keep A)
  replace RV := hid (RV.out.keep A)
  replace RB := hid (RB.out.keep A)
  replace RG := hid (RG.out.keep A)
  replace PP := hid (PP.out.trans (A.mono PP.out.size))
  have VS := hid (vb_new w [.int .i64 pc, .slice a1 4 c1, .slice a2 8 c2, .int .i64 0] 25)
  have z0 : (w.alloc (.cells #[.int .i64 pc, .slice a1 4 c1, .slice a2 8 c2, .int .i64 0] 25)).heap.size = w.heap.size + 1 := by simp
  obtain ⟨U0, hU0⟩ : ∃ X, w.alloc (.cells #[.int .i64 pc, .slice a1 4 c1, .slice a2 8 c2, .int .i64 0] 25) = X := ⟨_, rfl⟩
  rw [hU0] at z0 RU RV RB RG VS PP
  try rw [hU0]
  clear A hU0
  have A := below_alloc1 U0 (.cells #[.int .i64 2, .int .i64 y, .slice ba bs.length bc, .int .i64 (p : Int), .int .i64 (g : Int), .int .i64 (f : Int)] 30)
  replace RU := hid (RU.out.keep A)
  replace RV := hid (RV.out.keep A)
  replace RB := hid (RB.out.keep A)
  replace RG := hid (RG.out.keep A)
  replace VS := hid (VS.out.keep A)
  replace PP := hid (PP.out.trans (A.mono PP.out.size))
  have VQ := hid (vb_new U0 [.int .i64 2, .int .i64 y, .slice ba bs.length bc, .int .i64 (p : Int), .int .i64 (g : Int), .int .i64 (f : Int)] 30)
  have z1 : (U0.alloc (.cells #[.int .i64 2, .int .i64 y, .slice ba bs.length bc, .int .i64 (p : Int), .int .i64 (g : Int), .int .i64 (f : Int)] 30)).heap.size = w.heap.size + 2 := by simp [z0]
  rw [z0] at VQ
  obtain ⟨U1, hU1⟩ : ∃ X, U0.alloc (.cells #[.int .i64 2, .int .i64 y, .slice ba bs.length bc, .int .i64 (p : Int), .int .i64 (g : Int), .int .i64 (f : Int)] 30) = X := ⟨_, rfl⟩
  rw [hU1] at z1 RU RV RB RG VS VQ PP
  try rw [hU1]
  clear A hU1
  have A := below_alloc1 U1 (.cells #[.int .i64 0, .slice none 0 0, .slice none 0 0, .int .i64 0] 25)
  replace RU := hid (RU.out.keep A)
  replace RV := hid (RV.out.keep A)
  replace RB := hid (RB.out.keep A)
  replace RG := hid (RG.out.keep A)
  replace VS := hid (VS.out.keep A)
  replace VQ := hid (VQ.out.keep A)
  replace PP := hid (PP.out.trans (A.mono PP.out.size))
  have VR := hid (vb_new U1 [.int .i64 0, .slice none 0 0, .slice none 0 0, .int .i64 0] 25)
  have z2 : (U1.alloc (.cells #[.int .i64 0, .slice none 0 0, .slice none 0 0, .int .i64 0] 25)).heap.size = w.heap.size + 3 := by simp [z1]
  rw [z1] at VR
  obtain ⟨U2, hU2⟩ : ∃ X, U1.alloc (.cells #[.int .i64 0, .slice none 0 0, .slice none 0 0, .int .i64 0] 25) = X := ⟨_, rfl⟩
  rw [hU2] at z2 RU RV RB RG VS VQ VR PP
  try rw [hU2]
  clear A hU2
  obtain ⟨s0, s1, s2, s3⟩ := vb4 VS.out
  refine (specVmOk_any pc 0 _ _ 4 8 xs ys _ RU.out RV.out).mono ?_
  rw [HC0.out]
  rintro e w1 ⟨rfl, bb⟩
  clear s0 s1 s2 s3
  replace RU := hid (RU.out.keep bb)
  replace RV := hid (RV.out.keep bb)
  replace RB := hid (RB.out.keep bb)
  replace RG := hid (RG.out.keep bb)
  replace VS := hid (VS.out.keep bb)
  replace VQ := hid (VQ.out.keep bb)
  replace VR := hid (VR.out.keep bb)
  replace PP := hid (PP.out.trans (bb.mono PP.out.size))
  clear bb
  obtain ⟨q0, q1, q2, q3, q4, q5⟩ := vb6 VQ.out
  go_wp2_with fail
  clear q0 q1 q2 q3 q4 q5
  refine (askOk_any 2 y (p : Int) (g : Int) (f : Int) ba bc bs _ RB.out).mono ?_
  rw [HC1.out]
  rintro e w2 ⟨rfl, bb⟩
  replace RU := hid (RU.out.keep bb)
  replace RV := hid (RV.out.keep bb)
  replace RB := hid (RB.out.keep bb)
  replace RG := hid (RG.out.keep bb)
  replace VS := hid (VS.out.keep bb)
  replace VQ := hid (VQ.out.keep bb)
  replace VR := hid (VR.out.keep bb)
  replace PP := hid (PP.out.trans (bb.mono PP.out.size))
  clear bb
  go_wp2_with fail
  refine (specMsg_any _ got _ RG.out).mono ?_
  rw [HC2.out]
  rintro e w3 ⟨rfl, rfl⟩
  obtain ⟨s0, s1, s2, s3⟩ := vb4 VS.out
  go_wp2_with fail
  clear s0 s1 s2 s3
  refine (l6Copy_any pc 0 xs ys _ _ _ RU.out RV.out).mono ?_
  rintro e w4 ⟨u1, v1, rfl, o1, o2, ap, bb⟩
  clear RU RV RB VS
  have HLB := hid (VR.out.2.2)
  replace RG := hid (RG.out.keep bb)
  replace VQ := hid (VQ.out.keep bb)
  replace VR := hid (VR.out.keep bb)
  replace PP := hid (PP.out.trans (bb.mono PP.out.size))
  clear bb
  obtain ⟨L, hL⟩ : ∃ L, w3.heap.size = L := ⟨_, rfl⟩
  rw [hL] at o1 o2 HLB
  obtain ⟨x1, d1, rfl, e1⟩ := ownI_form o1
  obtain ⟨x2, d2, rfl, e2⟩ := ownI_form o2
  obtain ⟨gu, rfl⟩ : ∃ gu, x1 = some ⟨gu, 0, none⟩ := by rcases e1 with e1 | e1; omega; exact e1
  obtain ⟨gv, rfl⟩ : ∃ gv, x2 = some ⟨gv, 0, none⟩ := by rcases e2 with e2 | e2; omega; exact e2
  have HGU := hid (o1.blk gu rfl)
  have HGV := hid (o2.blk gv rfl)
  have AP := hid (show ¬ gv = gu from fun e => by subst e; exact ap gv rfl rfl)
  have O1 := hid o1
  have O2 := hid o2
  clear o1 o2 ap e1 e2
  obtain ⟨b, hb⟩ : ∃ b, w4.heap.size = b := ⟨_, rfl⟩
  have VX := hid (show VB (w4.alloc (.cells #[.int .i64 pc, .slice (some ⟨gu, 0, none⟩) 4 d1, .slice (some ⟨gv, 0, none⟩) 8 d2, .int .i64 0] 25)) b _ from by rw [← hb]; exact vb_new w4 [.int .i64 pc, .slice (some ⟨gu, 0, none⟩) 4 d1, .slice (some ⟨gv, 0, none⟩) 8 d2, .int .i64 0] 25)
  have A := below_alloc1 w4 (.cells #[.int .i64 pc, .slice (some ⟨gu, 0, none⟩) 4 d1, .slice (some ⟨gv, 0, none⟩) 8 d2, .int .i64 0] 25)
  replace RG := hid (RG.out.keep A)
  replace VQ := hid (VQ.out.keep A)
  replace VR := hid (VR.out.keep A)
  replace O1 := hid (O1.out.keep A)
  replace O2 := hid (O2.out.keep A)
  replace PP := hid (PP.out.trans (A.mono PP.out.size))
  clear A
  have HBX := hid (show L ≤ b ∧ gu < b ∧ gv < b by have := HGU.out; have := HGV.out; omega)
  have O1LO := hid (show L ≤ gu ∧ L ≤ gv from ⟨HGU.out.1, HGV.out.1⟩)
  have g0 : (0 : Int) ≤ (g : Int) := by omega
  have g4 : (g : Int) < 4 := by omega
  have f0 : (0 : Int) ≤ (f : Int) := by omega
  have f4 : (f : Int) < 4 := by omega
  go_upto_if 29 with fail
  obtain ⟨w5, hw5⟩ : ∃ X, w4.alloc (.cells #[.int .i64 pc, .slice (some ⟨gu, 0, none⟩) 4 d1, .slice (some ⟨gv, 0, none⟩) 8 d2, .int .i64 0] 25) = X := ⟨_, rfl⟩
  rw [hw5] at RG VQ VR O1 O2 VX PP
  try rw [hw5]
  try rw [hb]
  clear hw5 hb HGU HGV
  obtain ⟨q0, q1, q2, q3, q4, q5⟩ := vb6 VQ.out
  obtain ⟨xx0, xx1, xx2, xx3⟩ := vb4 VX.out
  have qpl : IntKind.i64.wrap ((p : Int) + (got.length : Int)) = (p : Int) + (got.length : Int) := by rw [IntKind.wrap_i64]; omega
  have dl : decide ((8 : Int) < (p : Int) + (got.length : Int)) = false := by simp; omega
  have ql : IntKind.i64.wrap ((got.length : Int) + 1) = (got.length : Int) + 1 := by rw [IntKind.wrap_i64]; omega
  go_wp2_with fail
  clear q0 q1 q2 q3 q4 q5 xx0 xx1 xx2 xx3
  refine (l6Lay_any pc 0 p _ _ _ gv d2 L ga gc got ys _ O2.out RG.out (fun hl0 j hj e => by have := HGO.out hl0 j hj; have := O1LO.out; have := HLB.out; omega) hl).mono ?_
  rintro e w6 ⟨rfl, o2, CC⟩
  replace VQ := hid (VQ.out.chg CC (fun e => by have e : _ = gv := e; have := HBX.out; have := HLB.out; have := O1LO.out; omega))
  replace VR := hid (VR.out.chg CC (fun e => by have e : _ = gv := e; have := HBX.out; have := HLB.out; have := O1LO.out; omega))
  replace O1 := hid (O1.out.chg CC (fun j hj e => by have e : j = gv := e; simp [Value.ownBlock] at hj; have := AP.out; omega))
  replace O2 := hid o2
  replace VX := hid (VX.out.chg CC (fun e => by have e : _ = gv := e; have := HBX.out; have := HLB.out; have := O1LO.out; omega))
  replace PP := hid (below_chg PP.out CC PP.out.size (fun j hj => by have hj : j = gv := hj; have := O1LO.out; have := HLB.out; omega))
  clear CC o2 RG
  obtain ⟨xx0, xx1, xx2, xx3⟩ := vb4 VX.out
  have fx := VX.out.2.1
  go_upto_region 18 with fail
  clear xx0 xx1 xx2 xx3 fx
  have CC : Chg (fun j => j = b) w6 ((((w6.setCell ⟨b, 0, none⟩ (.int .i64 pc)).setCell ⟨b, 1, none⟩ (.slice (some ⟨gu, 0, none⟩) 4 d1)).setCell ⟨b, 2, none⟩ (.slice (some ⟨gv, 0, none⟩) 8 d2)).setCell ⟨b, 3, none⟩ (.int .i64 0)) := vbchg4 (.int .i64 pc) (.slice (some ⟨gu, 0, none⟩) 4 d1) (.slice (some ⟨gv, 0, none⟩) 8 d2) (.int .i64 0) rfl
  replace VX := hid (vbset4 (.int .i64 pc) (.slice (some ⟨gu, 0, none⟩) 4 d1) (.slice (some ⟨gv, 0, none⟩) 8 d2) (.int .i64 0) VX.out)
  replace VQ := hid (VQ.out.chg CC (fun e => by have e : _ = b := e; have := HBX.out; have := HLB.out; omega))
  replace VR := hid (VR.out.chg CC (fun e => by have e : _ = b := e; have := HBX.out; have := HLB.out; omega))
  replace O1 := hid (O1.out.chg CC (fun j hj e => by have e : j = b := e; simp [Value.ownBlock] at hj; have := HBX.out; omega))
  replace O2 := hid (O2.out.chg CC (fun j hj e => by have e : j = b := e; simp [Value.ownBlock] at hj; have := HBX.out; omega))
  replace PP := hid (below_chg PP.out CC PP.out.size (fun j hj => by have hj : j = b := hj; have := HBX.out; have := HLB.out; omega))
  obtain ⟨w7, hw7⟩ : ∃ X, ((((w6.setCell ⟨b, 0, none⟩ (.int .i64 pc)).setCell ⟨b, 1, none⟩ (.slice (some ⟨gu, 0, none⟩) 4 d1)).setCell ⟨b, 2, none⟩ (.slice (some ⟨gv, 0, none⟩) 8 d2)).setCell ⟨b, 3, none⟩ (.int .i64 0)) = X := ⟨_, rfl⟩
  rw [hw7] at CC PP VQ VR O1 O2 VX
  try rw [hw7]
  clear hw7 CC
  obtain ⟨q0, q1, q2, q3, q4, q5⟩ := vb6 VQ.out
  obtain ⟨xx0, xx1, xx2, xx3⟩ := vb4 VX.out
  obtain ⟨rc, rf, _, _⟩ := ownI_cell O1.out (i := g) (by have := O1.out.len; omega)
  obtain ⟨zz, hzz⟩ : ∃ z, (xs).getD g 0 = z := ⟨_, rfl⟩
  rw [hzz] at rc
  clear hzz
  go_upto_region 25 with fail
  clear rc rf q0 q1 q2 q3 q4 q5 xx0 xx1 xx2 xx3
  have CC : Chg (fun j => j = gu) w7 (w7.setCell ⟨gu, g, none⟩ (.int .i64 ((got.length : Int) + 1))) := (Chg.refl (fun j => j = gu) w7).set (p := ⟨gu, g, none⟩) rfl (.int .i64 ((got.length : Int) + 1))
  replace VQ := hid (VQ.out.chg CC (fun e => by have e : _ = gu := e; have := HBX.out; have := HLB.out; have := O1LO.out; omega))
  replace VR := hid (VR.out.chg CC (fun e => by have e : _ = gu := e; have := HBX.out; have := HLB.out; have := O1LO.out; omega))
  replace O1 := hid ((ownI_set O1.out (i := g) (y := (got.length : Int) + 1) (by have := O1.out.len; omega)))
  replace O2 := hid (O2.out.chg CC (fun j hj e => by have e : j = gu := e; simp [Value.ownBlock] at hj; have := AP.out; omega))
  replace VX := hid (VX.out.chg CC (fun e => by have e : _ = gu := e; have := HBX.out; have := HLB.out; have := O1LO.out; omega))
  replace PP := hid (below_chg PP.out CC PP.out.size (fun j hj => by have hj : j = gu := hj; have := O1LO.out; have := HLB.out; omega))
  obtain ⟨wb, hwb⟩ : ∃ X, (w7.setCell ⟨gu, g, none⟩ (.int .i64 ((got.length : Int) + 1))) = X := ⟨_, rfl⟩
  rw [hwb] at CC PP VQ VR O1 O2 VX
  try rw [hwb]
  clear hwb CC
  obtain ⟨xx0, xx1, xx2, xx3⟩ := vb4 VX.out
  obtain ⟨r0, r1, r2, r3⟩ := vb4 VR.out
  have fr := VR.out.2.1
  obtain ⟨e1, e2, e3, e4⟩ := give_end2 (pc := pc) (H := 0) (w := w) (B := w.heap.size + 2) (by omega) HLB.out PP.out VR.out O1.out O2.out
  have E1 := hid e1
  have E2 := hid e2
  have E3 := hid e3
  have E4 := hid e4
  have AQ := hid AP.out
  clear e1 e2 e3 e4 VR O1 O2 VX
  go_wp2_with fail
  refine bodyPost_ret (resGiveS _ rfl E1.out) rfl ?_
  exact ⟨_, _, rfl, E2.out, E3.out, (fun j hj e => by simp [Value.ownBlock] at hj e; have := AQ.out; omega), E4.out⟩
set_option maxHeartbeats 16000000 in
theorem sgive_fall (pc ht k y : Int) (p g f : Nat) (ba : Option Addr) (bc : Nat) (bs : List Int) (gv : Value) (got : List Int) (u v : Value) (xs ys : List Int) (w : World) (hu : RdI 1 w u 4 xs) (hv : RdI 1 w v 8 ys) (hb : Rd w (.slice ba bs.length bc) bs) (hgv : Rd w gv got) (hg : g < 4) (hf : f < 4) (hp : p ≤ 255) (h0 : ht = 0) (h1 : k = 2) (hl : 8 < p + got.length) (hok : gvB pc 4 xs 8 ys ht k y bs.length (p : Int) (g : Int) (f : Int) got = true) :
    Calls Try.prog 24 #[.agg #[.int .i64 pc, u, v, .int .i64 ht], .agg #[.int .i64 k, .int .i64 y, .slice ba bs.length bc, .int .i64 (p : Int), .int .i64 (g : Int), .int .i64 (f : Int)], gv, .bool true] w fun e w' => GivePost true pc (2) (xs) (ys) w e w' := by
  simp only [gvB, Bool.and_eq_true] at hok
  have HC0 := hid hok.1
  have HC1 := hid hok.2.1
  have HC2 := hid hok.2.2
  have LR := hid (show xs.length = 4 from by have := hu.1; omega)
  have LM := hid (show ys.length = 8 from by have := hv.1; omega)
  have RU := hid hu
  have RV := hid hv
  have RB := hid hb
  have RG := hid hgv
  obtain ⟨_, _, a1, c1, rfl, _⟩ := hu
  obtain ⟨_, _, a2, c2, rfl, _⟩ := hv
  obtain ⟨_, _, ga, gc, rfl, _⟩ := hgv
  have HGO := hid (rd_old RG.out)
  clear hb hok
  subst h0
  subst h1
  go_enter Try.func24, Try.ntmps24
  go_wp2_with fail
  have PP := hid (Below.refl w.heap.size w)
  have A := below_alloc1 w (.cells #[.int .i64 pc, .slice a1 4 c1, .slice a2 8 c2, .int .i64 0] 25)
  replace RU := hid (RU.out.keep A)
  replace RV := hid (RV.out.keep A)
  replace RB := hid (RB.out.keep A)
  replace RG := hid (RG.out.keep A)
  replace PP := hid (PP.out.trans (A.mono PP.out.size))
  have VS := hid (vb_new w [.int .i64 pc, .slice a1 4 c1, .slice a2 8 c2, .int .i64 0] 25)
  have z0 : (w.alloc (.cells #[.int .i64 pc, .slice a1 4 c1, .slice a2 8 c2, .int .i64 0] 25)).heap.size = w.heap.size + 1 := by simp
  obtain ⟨U0, hU0⟩ : ∃ X, w.alloc (.cells #[.int .i64 pc, .slice a1 4 c1, .slice a2 8 c2, .int .i64 0] 25) = X := ⟨_, rfl⟩
  rw [hU0] at z0 RU RV RB RG VS PP
  try rw [hU0]
  clear A hU0
  have A := below_alloc1 U0 (.cells #[.int .i64 2, .int .i64 y, .slice ba bs.length bc, .int .i64 (p : Int), .int .i64 (g : Int), .int .i64 (f : Int)] 30)
  replace RU := hid (RU.out.keep A)
  replace RV := hid (RV.out.keep A)
  replace RB := hid (RB.out.keep A)
  replace RG := hid (RG.out.keep A)
  replace VS := hid (VS.out.keep A)
  replace PP := hid (PP.out.trans (A.mono PP.out.size))
  have VQ := hid (vb_new U0 [.int .i64 2, .int .i64 y, .slice ba bs.length bc, .int .i64 (p : Int), .int .i64 (g : Int), .int .i64 (f : Int)] 30)
  have z1 : (U0.alloc (.cells #[.int .i64 2, .int .i64 y, .slice ba bs.length bc, .int .i64 (p : Int), .int .i64 (g : Int), .int .i64 (f : Int)] 30)).heap.size = w.heap.size + 2 := by simp [z0]
  rw [z0] at VQ
  obtain ⟨U1, hU1⟩ : ∃ X, U0.alloc (.cells #[.int .i64 2, .int .i64 y, .slice ba bs.length bc, .int .i64 (p : Int), .int .i64 (g : Int), .int .i64 (f : Int)] 30) = X := ⟨_, rfl⟩
  rw [hU1] at z1 RU RV RB RG VS VQ PP
  try rw [hU1]
  clear A hU1
  have A := below_alloc1 U1 (.cells #[.int .i64 0, .slice none 0 0, .slice none 0 0, .int .i64 0] 25)
  replace RU := hid (RU.out.keep A)
  replace RV := hid (RV.out.keep A)
  replace RB := hid (RB.out.keep A)
  replace RG := hid (RG.out.keep A)
  replace VS := hid (VS.out.keep A)
  replace VQ := hid (VQ.out.keep A)
  replace PP := hid (PP.out.trans (A.mono PP.out.size))
  have VR := hid (vb_new U1 [.int .i64 0, .slice none 0 0, .slice none 0 0, .int .i64 0] 25)
  have z2 : (U1.alloc (.cells #[.int .i64 0, .slice none 0 0, .slice none 0 0, .int .i64 0] 25)).heap.size = w.heap.size + 3 := by simp [z1]
  rw [z1] at VR
  obtain ⟨U2, hU2⟩ : ∃ X, U1.alloc (.cells #[.int .i64 0, .slice none 0 0, .slice none 0 0, .int .i64 0] 25) = X := ⟨_, rfl⟩
  rw [hU2] at z2 RU RV RB RG VS VQ VR PP
  try rw [hU2]
  clear A hU2
  obtain ⟨s0, s1, s2, s3⟩ := vb4 VS.out
  refine (specVmOk_any pc 0 _ _ 4 8 xs ys _ RU.out RV.out).mono ?_
  rw [HC0.out]
  rintro e w1 ⟨rfl, bb⟩
  clear s0 s1 s2 s3
  replace RU := hid (RU.out.keep bb)
  replace RV := hid (RV.out.keep bb)
  replace RB := hid (RB.out.keep bb)
  replace RG := hid (RG.out.keep bb)
  replace VS := hid (VS.out.keep bb)
  replace VQ := hid (VQ.out.keep bb)
  replace VR := hid (VR.out.keep bb)
  replace PP := hid (PP.out.trans (bb.mono PP.out.size))
  clear bb
  obtain ⟨q0, q1, q2, q3, q4, q5⟩ := vb6 VQ.out
  go_wp2_with fail
  clear q0 q1 q2 q3 q4 q5
  refine (askOk_any 2 y (p : Int) (g : Int) (f : Int) ba bc bs _ RB.out).mono ?_
  rw [HC1.out]
  rintro e w2 ⟨rfl, bb⟩
  replace RU := hid (RU.out.keep bb)
  replace RV := hid (RV.out.keep bb)
  replace RB := hid (RB.out.keep bb)
  replace RG := hid (RG.out.keep bb)
  replace VS := hid (VS.out.keep bb)
  replace VQ := hid (VQ.out.keep bb)
  replace VR := hid (VR.out.keep bb)
  replace PP := hid (PP.out.trans (bb.mono PP.out.size))
  clear bb
  go_wp2_with fail
  refine (specMsg_any _ got _ RG.out).mono ?_
  rw [HC2.out]
  rintro e w3 ⟨rfl, rfl⟩
  obtain ⟨s0, s1, s2, s3⟩ := vb4 VS.out
  go_wp2_with fail
  clear s0 s1 s2 s3
  refine (l6Copy_any pc 0 xs ys _ _ _ RU.out RV.out).mono ?_
  rintro e w4 ⟨u1, v1, rfl, o1, o2, ap, bb⟩
  clear RU RV RB VS
  have HLB := hid (VR.out.2.2)
  replace RG := hid (RG.out.keep bb)
  replace VQ := hid (VQ.out.keep bb)
  replace VR := hid (VR.out.keep bb)
  replace PP := hid (PP.out.trans (bb.mono PP.out.size))
  clear bb
  obtain ⟨L, hL⟩ : ∃ L, w3.heap.size = L := ⟨_, rfl⟩
  rw [hL] at o1 o2 HLB
  obtain ⟨x1, d1, rfl, e1⟩ := ownI_form o1
  obtain ⟨x2, d2, rfl, e2⟩ := ownI_form o2
  obtain ⟨gu, rfl⟩ : ∃ gu, x1 = some ⟨gu, 0, none⟩ := by rcases e1 with e1 | e1; omega; exact e1
  obtain ⟨gv, rfl⟩ : ∃ gv, x2 = some ⟨gv, 0, none⟩ := by rcases e2 with e2 | e2; omega; exact e2
  have HGU := hid (o1.blk gu rfl)
  have HGV := hid (o2.blk gv rfl)
  have AP := hid (show ¬ gv = gu from fun e => by subst e; exact ap gv rfl rfl)
  have O1 := hid o1
  have O2 := hid o2
  clear o1 o2 ap e1 e2
  obtain ⟨b, hb⟩ : ∃ b, w4.heap.size = b := ⟨_, rfl⟩
  have VX := hid (show VB (w4.alloc (.cells #[.int .i64 pc, .slice (some ⟨gu, 0, none⟩) 4 d1, .slice (some ⟨gv, 0, none⟩) 8 d2, .int .i64 0] 25)) b _ from by rw [← hb]; exact vb_new w4 [.int .i64 pc, .slice (some ⟨gu, 0, none⟩) 4 d1, .slice (some ⟨gv, 0, none⟩) 8 d2, .int .i64 0] 25)
  have A := below_alloc1 w4 (.cells #[.int .i64 pc, .slice (some ⟨gu, 0, none⟩) 4 d1, .slice (some ⟨gv, 0, none⟩) 8 d2, .int .i64 0] 25)
  replace RG := hid (RG.out.keep A)
  replace VQ := hid (VQ.out.keep A)
  replace VR := hid (VR.out.keep A)
  replace O1 := hid (O1.out.keep A)
  replace O2 := hid (O2.out.keep A)
  replace PP := hid (PP.out.trans (A.mono PP.out.size))
  clear A
  have HBX := hid (show L ≤ b ∧ gu < b ∧ gv < b by have := HGU.out; have := HGV.out; omega)
  have O1LO := hid (show L ≤ gu ∧ L ≤ gv from ⟨HGU.out.1, HGV.out.1⟩)
  have g0 : (0 : Int) ≤ (g : Int) := by omega
  have g4 : (g : Int) < 4 := by omega
  have f0 : (0 : Int) ≤ (f : Int) := by omega
  have f4 : (f : Int) < 4 := by omega
  go_upto_if 29 with fail
  obtain ⟨w5, hw5⟩ : ∃ X, w4.alloc (.cells #[.int .i64 pc, .slice (some ⟨gu, 0, none⟩) 4 d1, .slice (some ⟨gv, 0, none⟩) 8 d2, .int .i64 0] 25) = X := ⟨_, rfl⟩
  rw [hw5] at RG VQ VR O1 O2 VX PP
  try rw [hw5]
  try rw [hb]
  clear hw5 hb HGU HGV
  obtain ⟨q0, q1, q2, q3, q4, q5⟩ := vb6 VQ.out
  obtain ⟨xx0, xx1, xx2, xx3⟩ := vb4 VX.out
  have hg8 : got.length ≤ 8 := by have := HC2.out; simpa using this
  have qpl : IntKind.i64.wrap ((p : Int) + (got.length : Int)) = (p : Int) + (got.length : Int) := by rw [IntKind.wrap_i64]; omega
  have dl : decide ((8 : Int) < (p : Int) + (got.length : Int)) = true := by simp; omega
  go_wp2_with fail
  clear q0 q1 q2 q3 q4 q5 xx0 xx1 xx2 xx3
  refine (l6Fall_any pc 0 _ _ _ _ _ _ _).mono ?_
  rintro e w6 ⟨rfl, bb⟩
  clear RG VQ
  replace VR := hid (VR.out.keep bb)
  replace O1 := hid (O1.out.keep bb)
  replace O2 := hid (O2.out.keep bb)
  replace VX := hid (VX.out.keep bb)
  replace PP := hid (PP.out.trans (bb.mono PP.out.size))
  clear bb
  obtain ⟨r0, r1, r2, r3⟩ := vb4 VR.out
  have fr := VR.out.2.1
  obtain ⟨e1, e2, e3, e4⟩ := give_end2 (pc := pc) (H := 2) (w := w) (B := w.heap.size + 2) (by omega) HLB.out PP.out VR.out O1.out O2.out
  have E1 := hid e1
  have E2 := hid e2
  have E3 := hid e3
  have E4 := hid e4
  have AQ := hid AP.out
  clear e1 e2 e3 e4 VR O1 O2 VX
  go_wp2_with fail
  refine bodyPost_ret (resGiveS _ rfl E1.out) rfl ?_
  exact ⟨_, _, rfl, E2.out, E3.out, (fun j hj e => by simp [Value.ownBlock] at hj e; have := AQ.out; omega), E4.out⟩
end Go.Proofs.Ytbpomeegpkdekaa
