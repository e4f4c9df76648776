/-
  FnExactPushBack: what is known between the calls. Conditions: none.
-/
import Derived.Test.YtapoahoknlaeaabQEx
import Derived.Test.YtapoahoknlaeaabQ3S
import Derived.Test.YtapoahoknlaeaabQ6
import Derived.Deep.CutRange
namespace Go.Proofs.Ytapoahoknlaeaab
open Go.RowKit

/-- the argument's boxes and packets; the copy x; what the model handed back; what the program handed back (its row its own) -/
structure EH (w : World) (bs : List (TypeId × Array Value)) (A : Option Addr) (n : Nat) (ps : List Pkt) (lim : Int) (base bx : Nat) (Ax : Option Addr) (cx : Nat) (xs : List Pkt) (lw : Int) (rs : List Pkt) (Aw : Option Addr) (nw cw : Nat) (bw bg : Nat)
    (Ag : Option Addr) (ng cg : Nat) (rs2 : List Pkt) (w' : World) : Prop where
  fr : Fr w bs A n ps w'
  x : Blk w' bx 25 #[.int .i64 lim, (.slice Ax n cx)]
  xo : w'.ownsRow base 51 4 (.slice Ax n cx) n (pcells xs)
  wq : Blk w' bw 25 #[.int .i64 lw, (.slice Aw nw cw)]
  wp : PR w' Aw nw rs
  g : Blk w' bg 25 #[.int .i64 lw, (.slice Ag ng cg)]
  go : w'.ownsRow (bx + 1) 51 4 (.slice Ag ng cg) ng (pcells rs2)
  hw : w.heap.size + bs.length ≤ bw
  hb : bw < base
  hx : base ≤ bx
  hg : bx < bg
  awl : 0 < nw → ∀ b, Aw.map (·.block) = some b → b < base
  xl : ∀ b, Value.ownBlock (.slice Ax n cx) = some b → b < bx
  gl : ∀ b, Value.ownBlock (.slice Ag ng cg) = some b → b ≠ bg
section
variable {w w1 w2 : World} {bs : List (TypeId × Array Value)} {A Ax Aw Ag : Option Addr} {n base bx cx nw cw bw bg ng cg : Nat} {ps xs rs rs2 : List Pkt} {lim lw : Int}
theorem eh_below (h : EH w bs A n ps lim base bx Ax cx xs lw rs Aw nw cw bw bg Ag ng cg rs2 w1) (hb : Below w1.heap.size w1 w2) : EH w bs A n ps lim base bx Ax cx xs lw rs Aw nw cw bw bg Ag ng cg rs2 w2 :=
  ⟨fr_below h.fr hb, blk_below h.x hb (blk_lt h.x), own_below h.xo hb, blk_below h.wq hb (blk_lt h.wq), pr_below h.wp hb, blk_below h.g hb (blk_lt h.g), own_below h.go hb, h.hw, h.hb, h.hx, h.hg, h.awl, h.xl, h.gl⟩
theorem eh_drew (h : EH w bs A n ps lim base bx Ax cx xs lw rs Aw nw cw bw bg Ag ng cg rs2 w1) : EH w bs A n ps lim base bx Ax cx xs lw rs Aw nw cw bw bg Ag ng cg rs2 w1.drew :=
  ⟨fr_drew h.fr, h.x, h.xo, h.wq, h.wp, h.g, h.go, h.hw, h.hb, h.hx, h.hg, h.awl, h.xl, h.gl⟩
theorem eh_far {row : Option Nat} (h : EH w bs A n ps lim base bx Ax cx xs lw rs Aw nw cw bw bg Ag ng cg rs2 w1) (hgr : w1.grownBy w2 row) (hr : ∀ b, row = some b → (base ≤ b ∧ b < bx) ∨ (bx < b ∧ b ≠ bg)) :
    Fr w bs A n ps w2 ∧ Blk w2 bx 25 #[.int .i64 lim, (.slice Ax n cx)] ∧ Blk w2 bw 25 #[.int .i64 lw, (.slice Aw nw cw)] ∧ PR w2 Aw nw rs ∧ Blk w2 bg 25 #[.int .i64 lw, (.slice Ag ng cg)] := by
  have h1 := h.hw
  have h2 := h.hb
  have h3 := h.hx
  have h4 := h.hg
  exact ⟨fr_grown h.fr hgr (fun b e => by have := hr b e; omega), blk_grownQ h.x hgr (fun e => by have := hr _ e.symm; omega), blk_grownQ h.wq hgr (fun e => by have := hr _ e.symm; omega), pr_grown h.wp hgr (fun hn b e e2 => by have := h.awl hn b e; have := hr b e2.symm; omega),
    blk_grownQ h.g hgr (fun e => by have := hr _ e.symm; omega)⟩
theorem own_apartH {v : Value} {row : Option Nat} {W W2 : World} {base2 m : Nat} {vs : List Value} (h : W.ownsRow base2 51 4 v m vs) (hgr : W.grownBy W2 row) (hne : ∀ b, v.ownBlock = some b → row ≠ some b) : W2.ownsRow base2 51 4 v m vs :=
  h.kept hgr (by
    rcases hv : v.ownBlock with _ | b
    · exact .inl rfl
    · exact .inr (fun e => hne b hv e.symm))
theorem eh_markx {ys : List Pkt} (h : EH w bs A n ps lim base bx Ax cx xs lw rs Aw nw cw bw bg Ag ng cg rs2 w1) (hgr : w1.grownBy w2 (Value.ownBlock (.slice Ax n cx))) (ho : w2.ownsRow base 51 4 (.slice Ax n cx) n (pcells ys)) : EH w bs A n ps lim base bx Ax cx ys lw rs Aw nw cw bw bg Ag ng cg rs2 w2 := by
  have hr : ∀ b, Value.ownBlock (.slice Ax n cx) = some b → (base ≤ b ∧ b < bx) ∨ (bx < b ∧ b ≠ bg) := fun b e => .inl ⟨(h.xo.lt b e).1, h.xl b e⟩
  obtain ⟨f1, f2, f3, f4, f5⟩ := eh_far h hgr hr
  exact ⟨f1, f2, ho, f3, f4, f5, own_apartH h.go hgr (fun b e e2 => by have := (h.go.lt b e).1; have := h.xl b e2; omega), h.hw, h.hb, h.hx, h.hg, h.awl, h.xl, h.gl⟩
theorem eh_markg {ys : List Pkt} (h : EH w bs A n ps lim base bx Ax cx xs lw rs Aw nw cw bw bg Ag ng cg rs2 w1) (hgr : w1.grownBy w2 (Value.ownBlock (.slice Ag ng cg))) (ho : w2.ownsRow (bx + 1) 51 4 (.slice Ag ng cg) ng (pcells ys)) : EH w bs A n ps lim base bx Ax cx xs lw rs Aw nw cw bw bg Ag ng cg ys w2 := by
  have hr : ∀ b, Value.ownBlock (.slice Ag ng cg) = some b → (base ≤ b ∧ b < bx) ∨ (bx < b ∧ b ≠ bg) := fun b e => .inr ⟨(h.go.lt b e).1, h.gl b e⟩
  obtain ⟨f1, f2, f3, f4, f5⟩ := eh_far h hgr hr
  exact ⟨f1, f2, own_apartH h.xo hgr (fun b e e2 => by have := (h.go.lt b e2).1; have := h.xl b e; omega), f3, f4, f5, ho, h.hw, h.hb, h.hx, h.hg, h.awl, h.xl, h.gl⟩
theorem eh_cells (h : EH w bs A n ps lim base bx Ax cx xs lw rs Aw nw cw bw bg Ag ng cg rs2 w1) : (w1.cell? ⟨bx, 0, none⟩ = some (.int .i64 lim) ∧ w1.cell? ⟨bx, 1, none⟩ = some (.slice Ax n cx)) ∧ (w1.cell? ⟨bw, 0, none⟩ = some (.int .i64 lw) ∧ w1.cell? ⟨bw, 1, none⟩ = some (.slice Aw nw cw)) ∧ (w1.cell? ⟨bg, 0, none⟩ = some (.int .i64 lw) ∧ w1.cell? ⟨bg, 1, none⟩ = some (.slice Ag ng cg)) :=
  ⟨⟨blk_cell h.x 0, blk_cell h.x 1⟩, ⟨blk_cell h.wq 0, blk_cell h.wq 1⟩, blk_cell h.g 0, blk_cell h.g 1⟩
end
/-! The two boxes of the argument -/
section
variable {w w1 : World} {A : Option Addr} {n c : Nat} {ps : List Pkt} {lim : Int} {p : Pkt}
def FB (w : World) (lim : Int) (A : Option Addr) (n c : Nat) (ps : List Pkt) (p : Pkt) (w' : World) : Prop := Fr w [(41, #[.int .i64 lim, (.slice A n c)]), (48, #[.int .i64 p.peer, .int .i64 p.lane, .int .i64 p.size, .int .i64 p.id])] A n ps w'
theorem fb_cells (h : FB w lim A n c ps p w1) : (w1.cell? ⟨w.heap.size, 0, none⟩ = some (.int .i64 lim) ∧ w1.cell? ⟨w.heap.size, 1, none⟩ = some (.slice A n c) ∧ w1.cell? ⟨w.heap.size + 1, 0, none⟩ = some (.int .i64 p.peer) ∧ w1.cell? ⟨w.heap.size + 1, 1, none⟩ = some (.int .i64 p.lane) ∧ w1.cell? ⟨w.heap.size + 1, 2, none⟩ = some (.int .i64 p.size) ∧ w1.cell? ⟨w.heap.size + 1, 3, none⟩ = some (.int .i64 p.id)) ∧ FB w lim A n c ps p w1 :=
  ⟨⟨blk_cell (h.it 0 _ _ rfl) 0, blk_cell (h.it 0 _ _ rfl) 1, blk_cell (h.it 1 _ _ rfl) 0, blk_cell (h.it 1 _ _ rfl) 1, blk_cell (h.it 1 _ _ rfl) 2, blk_cell (h.it 1 _ _ rfl) 3⟩, h⟩
theorem fbO (h : (w1.cell? ⟨w.heap.size, 0, none⟩ = some (.int .i64 lim) ∧ w1.cell? ⟨w.heap.size, 1, none⟩ = some (.slice A n c) ∧ w1.cell? ⟨w.heap.size + 1, 0, none⟩ = some (.int .i64 p.peer) ∧ w1.cell? ⟨w.heap.size + 1, 1, none⟩ = some (.int .i64 p.lane) ∧ w1.cell? ⟨w.heap.size + 1, 2, none⟩ = some (.int .i64 p.size) ∧ w1.cell? ⟨w.heap.size + 1, 3, none⟩ = some (.int .i64 p.id)) ∧ FB w lim A n c ps p w1) : FB w lim A n c ps p w1 := h.2
theorem fb_set {a : Addr} (h : FB w lim A n c ps p w1) (ha : w.heap.size + 2 ≤ a.block) (u : Value) : FB w lim A n c ps p (w1.setCell a u) := fr_set h (by simpa using ha) u
theorem fb_below {w2 : World} (h : FB w lim A n c ps p w1) (hb : Below w1.heap.size w1 w2) : FB w lim A n c ps p w2 := fr_below h hb
theorem fb_alloc (h : FB w lim A n c ps p w1) (o : Obj) : FB w lim A n c ps p (w1.alloc o) := fr_alloc h o
theorem fb_drew (h : FB w lim A n c ps p w1) : FB w lim A n c ps p w1.drew := fr_drew h
theorem fb_lt (h : FB w lim A n c ps p w1) : w.heap.size + 2 ≤ w1.heap.size := by simpa using h.lt
end
theorem push_both (lim : Int) (ps : List Pkt) (p : Pkt) : ∃ (L : Int) (R : List Pkt) (i ok : Bool), R.length ≤ ps.length + 1 ∧
    Hid (∀ (A : Option Addr) (n c : Nat) (w : World), PR w A n ps → n ≤ 4000000000 → Calls Try.prog 32 #[.agg #[.int .i64 lim, (.slice A n c)], .agg #[.int .i64 p.peer, .int .i64 p.lane, .int .i64 p.size, .int .i64 p.id]] w (QPost2 w L R (.bool i) (.bool ok))) ∧
    Hid (∀ (A : Option Addr) (n c : Nat) (w : World), PR w A n ps → n ≤ 4000000000 → Calls Try.prog 34 #[.agg #[.int .i64 lim, (.slice A n c)], .agg #[.int .i64 p.peer, .int .i64 p.lane, .int .i64 p.size, .int .i64 p.id]] w (QPost2 w L R (.bool i) (.bool ok))) := by
  rcases hk : pushOk lim ps p with _ | _
  · exact ⟨0, [], false, false, Nat.zero_le _, Lib.hid fun A n c w h hn => pushS_no lim A n c ps p w h hn hk, Lib.hid fun A n c w h hn => pushI_no lim A n c ps p w h hn hk⟩
  · refine ⟨lim, pushP lim ps p, pushIn lim ps p, true, ?_, Lib.hid fun A n c w h hn => pushS_yes lim A n c ps p w h hn hk, Lib.hid fun A n c w h hn => pushI_yes lim A n c ps p w h hn hk⟩
    unfold pushP
    split
    · simp
    · first | (split <;> simp) | simp
/-- what stands behind the model's call -/
def WRel (w : World) (lim : Int) (A : Option Addr) (n c : Nat) (ps : List Pkt) (p : Pkt) (L : Int) (R : List Pkt) (s : Value) (wx : World) : Prop :=
  ∃ bw Aw nw cw, s = .pointer (some ⟨bw, 0, none⟩) ∧ FB w lim A n c ps p wx ∧ Blk wx bw 25 #[.int .i64 L, (.slice Aw nw cw)] ∧ PR wx Aw nw R ∧ nw = R.length ∧ w.heap.size + 2 ≤ bw
theorem wrel_set {w w8 : World} {lim : Int} {A : Option Addr} {n c : Nat} {ps : List Pkt} {p : Pkt} {L : Int} {R : List Pkt} {bw : Nat} {Aw : Option Addr} {nw cw base : Nat} (hF : FB w lim A n c ps p w8) (hB : Blk w8 bw 25 #[.int .i64 0, (.slice none 0 0)]) (hO : w8.ownsRow base 51 4 (.slice Aw nw cw) nw (pcells R))
    (hlt : bw < base) (hle : w.heap.size + 2 ≤ bw) (hn : nw = R.length) : WRel w lim A n c ps p L R (.pointer (some ⟨bw, 0, none⟩)) ((w8.setCell ⟨bw, 0, none⟩ (.int .i64 L)).setCell ⟨bw, 1, none⟩ (.slice Aw nw cw)) :=
  ⟨bw, Aw, nw, cw, rfl, fb_set (fb_set hF hle _) hle _, blk_set (blk_set hB 0 _) 1 _, pr_own (own_set_far (own_set_far hO hlt _) hlt _), hn, hle⟩
theorem wrel_new {w w8 : World} {lim : Int} {A : Option Addr} {n c : Nat} {ps : List Pkt} {p : Pkt} {L : Int} {R : List Pkt} {Aw : Option Addr} {nw cw base : Nat} (hF : FB w lim A n c ps p w8) (hO : w8.ownsRow base 51 4 (.slice Aw nw cw) nw (pcells R))
    (hn : nw = R.length) : WRel w lim A n c ps p L R (.pointer (some ⟨w8.heap.size, 0, none⟩)) (w8.alloc (.cells #[.int .i64 L, (.slice Aw nw cw)] 25)) :=
  ⟨w8.heap.size, Aw, nw, cw, rfl, fb_alloc hF _, blk_new w8 _ _, pr_alloc (pr_own hO) _, hn, fb_lt hF⟩
/-- what is known before the program's call -/
structure EI (w : World) (bs : List (TypeId × Array Value)) (A : Option Addr) (n : Nat) (ps : List Pkt) (lim : Int) (base bx : Nat) (Ax : Option Addr) (cx : Nat) (xs : List Pkt) (lw : Int) (rs : List Pkt) (Aw : Option Addr) (nw cw : Nat) (bw : Nat) (w' : World) : Prop where
  fr : Fr w bs A n ps w'
  x : Blk w' bx 25 #[.int .i64 lim, (.slice Ax n cx)]
  xo : w'.ownsRow base 51 4 (.slice Ax n cx) n (pcells xs)
  wq : Blk w' bw 25 #[.int .i64 lw, (.slice Aw nw cw)]
  wp : PR w' Aw nw rs
  hw : w.heap.size + bs.length ≤ bw
  hb : bw < base
  hx : base ≤ bx
  awl : 0 < nw → ∀ b, Aw.map (·.block) = some b → b < base
  xl : ∀ b, Value.ownBlock (.slice Ax n cx) = some b → b < bx
section
variable {w w1 w2 : World} {A Ax Aw Ag : Option Addr} {n c base bx cx nw cw bw bg ng cg base2 : Nat} {ps xs rs rs2 : List Pkt} {lim lw : Int} {p : Pkt}
theorem ei_below {bs : List (TypeId × Array Value)} (h : EI w bs A n ps lim base bx Ax cx xs lw rs Aw nw cw bw w1) (hb : Below w1.heap.size w1 w2) : EI w bs A n ps lim base bx Ax cx xs lw rs Aw nw cw bw w2 :=
  ⟨fr_below h.fr hb, blk_below h.x hb (blk_lt h.x), own_below h.xo hb, blk_below h.wq hb (blk_lt h.wq), pr_below h.wp hb, h.hw, h.hb, h.hx, h.awl, h.xl⟩
theorem ei_cells (h : EI w [(41, #[.int .i64 lim, (.slice A n c)]), (48, #[.int .i64 p.peer, .int .i64 p.lane, .int .i64 p.size, .int .i64 p.id])] A n ps lim base bx Ax cx xs lw rs Aw nw cw bw w1) (hb : Below w1.heap.size w1 w2) : ((w2.cell? ⟨bx, 0, none⟩ = some (.int .i64 lim) ∧ w2.cell? ⟨bx, 1, none⟩ = some (.slice Ax n cx)) ∧ (w2.cell? ⟨w.heap.size + 1, 0, none⟩ = some (.int .i64 p.peer) ∧ w2.cell? ⟨w.heap.size + 1, 1, none⟩ = some (.int .i64 p.lane) ∧ w2.cell? ⟨w.heap.size + 1, 2, none⟩ = some (.int .i64 p.size) ∧ w2.cell? ⟨w.heap.size + 1, 3, none⟩ = some (.int .i64 p.id))) ∧ Below w1.heap.size w1 w2 := by
  have h2 := ei_below h hb
  exact ⟨⟨⟨blk_cell h2.x 0, blk_cell h2.x 1⟩, blk_cell (h2.fr.it 1 _ _ rfl) 0, blk_cell (h2.fr.it 1 _ _ rfl) 1, blk_cell (h2.fr.it 1 _ _ rfl) 2, blk_cell (h2.fr.it 1 _ _ rfl) 3⟩, hb⟩
theorem eh_box (h : EH w [(41, #[.int .i64 lim, (.slice A n c)]), (48, #[.int .i64 p.peer, .int .i64 p.lane, .int .i64 p.size, .int .i64 p.id])] A n ps lim base bx Ax cx xs lw rs Aw nw cw bw bg Ag ng cg rs2 w1) (hb : Below w1.heap.size w1 w2) : ((w2.cell? ⟨w.heap.size, 0, none⟩ = some (.int .i64 lim) ∧ w2.cell? ⟨w.heap.size, 1, none⟩ = some (.slice A n c)) ∧ (w2.cell? ⟨w.heap.size + 1, 0, none⟩ = some (.int .i64 p.peer) ∧ w2.cell? ⟨w.heap.size + 1, 1, none⟩ = some (.int .i64 p.lane) ∧ w2.cell? ⟨w.heap.size + 1, 2, none⟩ = some (.int .i64 p.size) ∧ w2.cell? ⟨w.heap.size + 1, 3, none⟩ = some (.int .i64 p.id))) ∧ Below w1.heap.size w1 w2 := by
  have h2 := eh_below h hb
  exact ⟨⟨⟨blk_cell (h2.fr.it 0 _ _ rfl) 0, blk_cell (h2.fr.it 0 _ _ rfl) 1⟩, blk_cell (h2.fr.it 1 _ _ rfl) 0, blk_cell (h2.fr.it 1 _ _ rfl) 1, blk_cell (h2.fr.it 1 _ _ rfl) 2, blk_cell (h2.fr.it 1 _ _ rfl) 3⟩, hb⟩
theorem eh_xq (h : EH w [(41, #[.int .i64 lim, (.slice A n c)]), (48, #[.int .i64 p.peer, .int .i64 p.lane, .int .i64 p.size, .int .i64 p.id])] A n ps lim base bx Ax cx xs lw rs Aw nw cw bw bg Ag ng cg rs2 w1) (hb : Below w1.heap.size w1 w2) : ((w2.cell? ⟨w.heap.size, 0, none⟩ = some (.int .i64 lim) ∧ w2.cell? ⟨w.heap.size, 1, none⟩ = some (.slice A n c)) ∧ (w2.cell? ⟨bx, 0, none⟩ = some (.int .i64 lim) ∧ w2.cell? ⟨bx, 1, none⟩ = some (.slice Ax n cx))) ∧ Below w1.heap.size w1 w2 := by
  have h2 := eh_below h hb
  exact ⟨⟨⟨blk_cell (h2.fr.it 0 _ _ rfl) 0, blk_cell (h2.fr.it 0 _ _ rfl) 1⟩, blk_cell h2.x 0, blk_cell h2.x 1⟩, hb⟩
theorem snd_of {a b : Prop} (h : a ∧ b) : b := h.2
/-- what stands behind the program's call -/
def GRel (w : World) (lim : Int) (A : Option Addr) (n c : Nat) (ps : List Pkt) (p : Pkt) (base bx : Nat) (Ax : Option Addr) (cx : Nat) (L : Int) (R : List Pkt) (Aw : Option Addr) (nw cw bw : Nat) (s : Value) (wx : World) : Prop :=
  ∃ bg Ag ng cg, s = .pointer (some ⟨bg, 0, none⟩) ∧ ng = R.length ∧ EH w [(41, #[.int .i64 lim, (.slice A n c)]), (48, #[.int .i64 p.peer, .int .i64 p.lane, .int .i64 p.size, .int .i64 p.id])] A n ps lim base bx Ax cx ps L R Aw nw cw bw bg Ag ng cg R wx
theorem grel_set {R : List Pkt} {L : Int} (hE : EI w [(41, #[.int .i64 lim, (.slice A n c)]), (48, #[.int .i64 p.peer, .int .i64 p.lane, .int .i64 p.size, .int .i64 p.id])] A n ps lim base bx Ax cx ps L R Aw nw cw bw w1) (hB : Blk w1 bg 25 #[.int .i64 0, (.slice none 0 0)]) (hO : w1.ownsRow base2 51 4 (.slice Ag ng cg) ng (pcells R)) (hlt : bg < base2) (hle : bx < bg) (hn : ng = R.length) :
    GRel w lim A n c ps p base bx Ax cx L R Aw nw cw bw (.pointer (some ⟨bg, 0, none⟩)) ((w1.setCell ⟨bg, 0, none⟩ (.int .i64 L)).setCell ⟨bg, 1, none⟩ (.slice Ag ng cg)) := by
  have h1 := hE.hw
  have h2 := hE.hb
  have h3 := hE.hx
  simp at h1
  refine ⟨bg, Ag, ng, cg, rfl, hn, fr_set (fr_set hE.fr (by simp; omega) _) (by simp; omega) _, blk_far (blk_far hE.x (by simp; omega) _) (by simp; omega) _, own_set_ne (own_set_ne hE.xo (fun e => ?_) _) (fun e => ?_) _, blk_far (blk_far hE.wq (by simp; omega) _) (by simp; omega) _,
    pr_set (pr_set hE.wp (fun hn b e => ?_) _) (fun hn b e => ?_) _, blk_set (blk_set hB 0 _) 1 _, own_mono (own_set_far (own_set_far hO hlt _) hlt _) (by omega), hE.hw, h2, h3, hle, hE.awl, hE.xl, fun b e => ?_⟩
  · have := hE.xl _ e; simp at this; omega
  · have := hE.xl _ e; simp at this; omega
  · have := hE.awl hn b e; simp; omega
  · have := hE.awl hn b e; simp; omega
  · have := (hO.lt b e).1; omega
theorem grel_new {R : List Pkt} {L : Int} (hE : EI w [(41, #[.int .i64 lim, (.slice A n c)]), (48, #[.int .i64 p.peer, .int .i64 p.lane, .int .i64 p.size, .int .i64 p.id])] A n ps lim base bx Ax cx ps L R Aw nw cw bw w1) (hO : w1.ownsRow base2 51 4 (.slice Ag ng cg) ng (pcells R)) (hle : bx + 1 ≤ base2) (hn : ng = R.length) :
    GRel w lim A n c ps p base bx Ax cx L R Aw nw cw bw (.pointer (some ⟨w1.heap.size, 0, none⟩)) (w1.alloc (.cells #[.int .i64 L, (.slice Ag ng cg)] 25)) :=
  ⟨w1.heap.size, Ag, ng, cg, rfl, hn, fr_alloc hE.fr _, blk_alloc hE.x _, hE.xo.alloc _, blk_alloc hE.wq _, pr_alloc hE.wp _, blk_new w1 _ _, own_mono (hO.alloc _) hle, hE.hw, hE.hb, hE.hx, blk_lt hE.x, hE.awl, hE.xl, fun b e e2 => by have := (hO.lt b e).2; omega⟩
/-- what stands behind the program's second call: the world lies below, and the new queue -/
def HRel (W : World) (L : Int) (R : List Pkt) (s : Value) (wx : World) : Prop :=
  ∃ bh Ah nh ch, s = .pointer (some ⟨bh, 0, none⟩) ∧ nh = R.length ∧ Below W.heap.size W wx ∧ Blk wx bh 25 #[.int .i64 L, (.slice Ah nh ch)] ∧ PR wx Ah nh R
theorem hrel_set {W : World} {R : List Pkt} {L : Int} (hb : Below W.heap.size W w1) (hB : Blk w1 bg 25 #[.int .i64 0, (.slice none 0 0)]) (hO : w1.ownsRow base2 51 4 (.slice Ag ng cg) ng (pcells R)) (hlt : bg < base2) (hle : W.heap.size ≤ bg) (hn : ng = R.length) :
    HRel W L R (.pointer (some ⟨bg, 0, none⟩)) ((w1.setCell ⟨bg, 0, none⟩ (.int .i64 L)).setCell ⟨bg, 1, none⟩ (.slice Ag ng cg)) :=
  ⟨bg, Ag, ng, cg, rfl, hn, Below.setCell (Below.setCell hb hle _) hle _, blk_set (blk_set hB 0 _) 1 _, pr_own (own_set_far (own_set_far hO hlt _) hlt _)⟩
theorem hrel_new {W : World} {R : List Pkt} {L : Int} (hb : Below W.heap.size W w1) (hO : w1.ownsRow base2 51 4 (.slice Ag ng cg) ng (pcells R)) (hn : ng = R.length) :
    HRel W L R (.pointer (some ⟨w1.heap.size, 0, none⟩)) (w1.alloc (.cells #[.int .i64 L, (.slice Ag ng cg)] 25)) :=
  ⟨w1.heap.size, Ag, ng, cg, rfl, hn, below_alloc hb _, blk_new w1 _ _, pr_alloc (pr_own hO) _⟩
end
end Go.Proofs.Ytapoahoknlaeaab
