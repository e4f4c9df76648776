/-
  Chapter 6: what the functions hand back, as the laws read it: lanes and packets as lists. Conditions: none beside the lanes' reading.
  Conditions: each lemma says them.
-/
import Derived.Test.YtkmoiphcpmhacabKt
import Derived.Test.YtkmoiphcpmhacabKp
import Derived.Test.YtkmoiphcpmhacabKq
import Derived.Test.YtkmoiphcpmhacabKl
import Derived.Test.YtkmoiphcpmhacabKn
import Derived.Test.YtkmoiphcpmhacabKv
namespace Go.Proofs.Ytkmoiphcpmhacab
open Go.RowKit

/-- lanes of no memory -/
def lnZ : Ln := ⟨[], [], []⟩
/-- lanes and packets are handed back -/
def RdTk (w : World) (l : Ln) (ps : List Pkt) (ok : Bool) (e : Ending) (w' : World) : Prop :=
  ∃ A n c B m d C o f At nt ct, e = .returned (.tuple #[.agg #[.slice A n c, .slice B m d, .slice C o f], .slice At nt ct, .bool ok]) ∧ LR w' A n B m C o l ∧ PR w' At nt ps ∧ nt ≤ 4096 ∧ Below w.heap.size w w'
/-- lanes and one packet -/
def RdNo (w : World) (l : Ln) (p : Pkt) (ok : Bool) (e : Ending) (w' : World) : Prop :=
  ∃ A n c B m d C o f, e = .returned (.tuple #[.agg #[.slice A n c, .slice B m d, .slice C o f], .agg #[.int .i64 p.peer, .int .i64 p.lane, .int .i64 p.size, .int .i64 p.id], .bool ok]) ∧ LR w' A n B m C o l ∧ Below w.heap.size w w'
/-- lanes -/
def RdLn (w : World) (l : Ln) (ok : Bool) (e : Ending) (w' : World) : Prop :=
  ∃ A n c B m d C o f, e = .returned (.tuple #[.agg #[.slice A n c, .slice B m d, .slice C o f], .bool ok]) ∧ LR w' A n B m C o l ∧ Below w.heap.size w w'
/-- counts -/
def RdCt (w : World) (us : List Int) (ok : Bool) (e : Ending) (w' : World) : Prop :=
  ∃ A n c, e = .returned (.tuple #[.slice A n c, .bool ok]) ∧ n = us.length ∧ NR w' A n us ∧ Below w.heap.size w w'
theorem tk_len {l : Ln} (hv : LV l) (k : Nat) : (tkN k l).2.length ≤ 2048 := by
  have h := tkN_valid k l hv
  have := tot_le hv
  omega
theorem ct_rd {w w' : World} {l : Ln} {e : Ending} (h : CtPost w l e w') (hv : LV l) : RdCt w (cnts l) true e w' := by
  obtain ⟨A, n, c, rfl, ho, hb⟩ := h
  have e1 := lv_yes hv
  have e2 : cntR l = cnts l := by simp [cntR, e1]
  rw [e2] at ho
  exact ⟨A, n, c, by rw [e1], (nr_own ho).1.symm, nr_own ho, hb⟩
section
variable (A : Option Addr) (n c : Nat) (B : Option Addr) (m d : Nat) (C : Option Addr) (o f : Nat) (l : Ln) (w : World) (h : LR w A n B m C o l)
include h
theorem tkI_rd (b : Nat) (hv : LV l) : Calls Try.prog 89 #[.agg #[.slice A n c, .slice B m d, .slice C o f], .int .i64 (b : Int)] w (RdTk w (tkN b l).1 (tkN b l).2 true) := by
  refine (tkI_yes A n c B m d C o f l b w h hv).mono ?_
  rintro e w' ⟨A2, c2, B2, d2, C2, f2, tk, hs, iv, s, rfl, -, hL, -, ho, -, hb⟩
  obtain ⟨At, ct, rfl, -, -, -⟩ := own_form ho
  exact ⟨A2, 4, c2, B2, 4, d2, C2, 4, f2, At, _, ct, rfl, lo_lr hL (by omega) (by omega) (by omega), pr_own ho, by have := tk_len hv b; omega, hb⟩
theorem tkI_rdno (b : Int) (hk : ¬ (LV l ∧ 0 ≤ b)) : Calls Try.prog 89 #[.agg #[.slice A n c, .slice B m d, .slice C o f], .int .i64 b] w (RdTk w lnZ [] false) := by
  refine (tkI_no A n c B m d C o f l b w h hk).mono ?_
  rintro e w' ⟨rfl, hb⟩
  exact ⟨none, 0, 0, none, 0, 0, none, 0, 0, none, 0, 0, rfl, lr_nil _ _ _ _, pr_nil _ _, by omega, hb⟩
theorem tkS_rd (b : Nat) (hv : LV l) : Calls Try.prog 135 #[.agg #[.slice A n c, .slice B m d, .slice C o f], .int .i64 (b : Int)] w (RdTk w (tkN b l).1 (tkN b l).2 true) := by
  refine (tkS_yes A n c B m d C o f l b w h hv).mono ?_
  rintro e w' ⟨A2, c2, B2, d2, C2, f2, At, ct, rfl, hL, ho, hb⟩
  exact ⟨A2, 4, c2, B2, 4, d2, C2, 4, f2, At, _, ct, rfl, hL, pr_own ho, by have := tk_len hv b; omega, hb⟩
theorem tkS_rdno (b : Int) (hk : ¬ (LV l ∧ 0 ≤ b)) : Calls Try.prog 135 #[.agg #[.slice A n c, .slice B m d, .slice C o f], .int .i64 b] w (RdTk w lnZ [] false) := by
  refine (tkS_no A n c B m d C o f l b w h hk).mono ?_
  rintro e w' ⟨At, ct, rfl, hb⟩
  exact ⟨none, 0, 0, none, 0, 0, none, 0, 0, At, 0, ct, rfl, lr_nil _ _ _ _, pr_nil _ _, by omega, hb⟩
theorem noI_rd (i : Nat) (hk : NoOk l i) : Calls Try.prog 35 #[.agg #[.slice A n c, .slice B m d, .slice C o f]] w (RdNo w (nxN l i) (nxQ l i) true) := by
  refine (noI_yes A n c B m d C o f l i w h hk).mono ?_
  rintro e w' ⟨A2, c2, B2, d2, C2, f2, hs, iv, s, rfl, -, hL, -, hb⟩
  exact ⟨A2, 4, c2, B2, 4, d2, C2, 4, f2, rfl, lo_lr hL (by omega) (by omega) (by omega), hb⟩
theorem noI_rdno (hk : ¬ ∃ i, NoOk l i) : Calls Try.prog 35 #[.agg #[.slice A n c, .slice B m d, .slice C o f]] w (RdNo w lnZ ⟨0, 0, 0, 0⟩ false) := by
  refine (noI_no A n c B m d C o f l w h hk).mono ?_
  rintro e w' ⟨rfl, hb⟩
  exact ⟨none, 0, 0, none, 0, 0, none, 0, 0, rfl, lr_nil _ _ _ _, hb⟩
theorem ctI_rd (hv : LV l) : Calls Try.prog 25 #[.agg #[.slice A n c, .slice B m d, .slice C o f]] w (RdCt w (cnts l) true) := by
  refine (ctI_any A n c B m d C o f l w h).mono ?_
  rintro e w' hp
  exact ct_rd hp hv
theorem ctS_rd (hv : LV l) : Calls Try.prog 34 #[.agg #[.slice A n c, .slice B m d, .slice C o f]] w (RdCt w (cnts l) true) := by
  refine (ctS_any A n c B m d C o f l w h).mono ?_
  rintro e w' hp
  exact ct_rd hp hv
theorem jlI_rd (p : Pkt) (k : Nat) (r : Rb) (hk : JnOk l p k r) : Calls Try.prog 27 #[.agg #[.slice A n c, .slice B m d, .slice C o f], .agg #[.int .i64 p.peer, .int .i64 p.lane, .int .i64 p.size, .int .i64 p.id]] w (RdLn w (jnN l k r p) true) := by
  refine (jlI_yes A n c B m d C o f l p k r w h hk).mono ?_
  rintro e w' ⟨A2, n2, c2, B2, m2, d2, C2, o2, f2, hs, iv, rfl, e1, e2, e3, hL, -, hb⟩
  have hv := lv_join hk
  have := hv.n0; have := hv.n1; have := hv.n2
  exact ⟨A2, n2, c2, B2, m2, d2, C2, o2, f2, rfl, lo_lr hL (by omega) (by omega) (by omega), hb⟩
theorem jlI_rdno (p : Pkt) (hk : ¬ ∃ k r, JnOk l p k r) : Calls Try.prog 27 #[.agg #[.slice A n c, .slice B m d, .slice C o f], .agg #[.int .i64 p.peer, .int .i64 p.lane, .int .i64 p.size, .int .i64 p.id]] w (RdLn w lnZ false) := by
  refine (jlI_no A n c B m d C o f l p w h hk).mono ?_
  rintro e w' ⟨rfl, hb⟩
  exact ⟨none, 0, 0, none, 0, 0, none, 0, 0, rfl, lr_nil _ _ _ _, hb⟩
theorem jlS_rd (p : Pkt) (k : Nat) (r : Rb) (hk : JnOk l p k r) : Calls Try.prog 28 #[.agg #[.slice A n c, .slice B m d, .slice C o f], .agg #[.int .i64 p.peer, .int .i64 p.lane, .int .i64 p.size, .int .i64 p.id]] w (RdLn w (jnN l k r p) true) := by
  refine (jlS_yes A n c B m d C o f l p k r w h hk).mono ?_
  rintro e w' ⟨A2, n2, c2, B2, m2, d2, C2, o2, f2, hs, iv, rfl, e1, e2, e3, hL, -, hb⟩
  have hv := lv_join hk
  have := hv.n0; have := hv.n1; have := hv.n2
  exact ⟨A2, n2, c2, B2, m2, d2, C2, o2, f2, rfl, lo_lr hL (by omega) (by omega) (by omega), hb⟩
theorem jlS_rdno (p : Pkt) (hk : ¬ ∃ k r, JnOk l p k r) : Calls Try.prog 28 #[.agg #[.slice A n c, .slice B m d, .slice C o f], .agg #[.int .i64 p.peer, .int .i64 p.lane, .int .i64 p.size, .int .i64 p.id]] w (RdLn w lnZ false) := by
  refine (jlS_no A n c B m d C o f l p w h hk).mono ?_
  rintro e w' ⟨rfl, hb⟩
  exact ⟨none, 0, 0, none, 0, 0, none, 0, 0, rfl, lr_nil _ _ _ _, hb⟩
end
theorem nw_rd {w w' : World} {q : Int} {us : List Int} {e : Ending} (hk : NwOk q us) (hp : JlYes w (newN q us) e w') : RdLn w (newN q us) true e w' := by
  obtain ⟨A2, n2, c2, B2, m2, d2, C2, o2, f2, hs, iv, rfl, e1, e2, e3, hL, -, hb⟩ := hp
  have hv := lv_new hk
  have := hv.n0; have := hv.n1; have := hv.n2
  exact ⟨A2, n2, c2, B2, m2, d2, C2, o2, f2, rfl, lo_lr hL (by omega) (by omega) (by omega), hb⟩
section
variable (q : Int) (B : Option Addr) (m d : Nat) (us : List Int) (w : World) (h : NR w B m us) (hm : m ≤ 4000000000)
include h hm
theorem nwI_rd (hk : NwOk q us) : Calls Try.prog 31 #[.int .i64 q, .slice B m d] w (RdLn w (newN q us) true) :=
  (nwI_both q B m d us w h hm).mono fun _ _ hp => nw_rd hk (hp.1 hk)
theorem nwI_rdno (hk : ¬ NwOk q us) : Calls Try.prog 31 #[.int .i64 q, .slice B m d] w (RdLn w lnZ false) :=
  (nwI_both q B m d us w h hm).mono fun _ _ hp => by
    obtain ⟨rfl, hb⟩ := hp.2 hk
    exact ⟨none, 0, 0, none, 0, 0, none, 0, 0, rfl, lr_nil _ _ _ _, hb⟩
theorem nwS_rd (hk : NwOk q us) : Calls Try.prog 32 #[.int .i64 q, .slice B m d] w (RdLn w (newN q us) true) :=
  (nwS_yes q B m d us w h hm hk).mono fun _ _ hp => nw_rd hk hp
theorem nwS_rdno (hk : ¬ NwOk q us) : Calls Try.prog 32 #[.int .i64 q, .slice B m d] w (RdLn w lnZ false) :=
  (nwS_no q B m d us w h hm hk).mono fun _ _ hp => by
    obtain ⟨rfl, hb⟩ := hp
    exact ⟨none, 0, 0, none, 0, 0, none, 0, 0, rfl, lr_nil _ _ _ _, hb⟩
end
end Go.Proofs.Ytkmoiphcpmhacab
