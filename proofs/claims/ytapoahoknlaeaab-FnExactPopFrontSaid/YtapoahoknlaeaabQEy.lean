/-
  The exact laws of functions that hand back a queue: what is known between the calls. Conditions: none.
-/
import Derived.Test.YtapoahoknlaeaabQEx
import Derived.Test.YtapoahoknlaeaabQ6
namespace Go.Proofs.Ytapoahoknlaeaab
open Go.RowKit

/-- the argument's box and packets; the copy x; what the model handed back; what the program handed back (both rows its own); blocks besides -/
structure EG (w : World) (bs : List (TypeId × Array Value)) (A : Option Addr) (n : Nat) (ps : List Pkt) (lim : Int) (base bx : Nat) (Ax : Option Addr) (cx : Nat) (xs : List Pkt) (lw : Int) (rs gs : List Pkt) (Aw : Option Addr) (nw cw : Nat) (Dw : Option Addr) (mw dw : Nat) (bw bg : Nat)
    (Ag : Option Addr) (ng cg : Nat) (Dg : Option Addr) (mg dg : Nat) (rs2 gs2 : List Pkt) (ex : List (Nat × TypeId × Array Value)) (w' : World) : Prop where
  fr : Fr w bs A n ps w'
  x : Blk w' bx 25 #[.int .i64 lim, (.slice Ax n cx)]
  xo : w'.ownsRow base 51 4 (.slice Ax n cx) n (pcells xs)
  wq : Blk w' bw 25 #[.int .i64 lw, (.slice Aw nw cw)]
  wp : PR w' Aw nw rs
  wd : PR w' Dw mw gs
  g : Blk w' bg 25 #[.int .i64 lw, (.slice Ag ng cg)]
  go : w'.ownsRow (bx + 1) 51 4 (.slice Ag ng cg) ng (pcells rs2)
  gd : w'.ownsRow (bx + 1) 51 4 (.slice Dg mg dg) mg (pcells gs2)
  ex : ∀ b t cs, (b, t, cs) ∈ ex → Blk w' b t cs ∧ (b < base ∨ bg ≤ b)
  hw : w.heap.size + bs.length ≤ bw
  hb : bw < base
  hx : base ≤ bx
  hg : bx < bg
  pl : 0 < n → ∀ b, A.map (·.block) = some b → b < w.heap.size
  awl : 0 < nw → ∀ b, Aw.map (·.block) = some b → b < base
  dwl : 0 < mw → ∀ b, Dw.map (·.block) = some b → b < base
  xl : ∀ b, Value.ownBlock (.slice Ax n cx) = some b → b < bx
  gl : ∀ b, Value.ownBlock (.slice Ag ng cg) = some b → b < bg
  dl : ∀ b, Value.ownBlock (.slice Dg mg dg) = some b → b < bg
  sep : ∀ b, Value.ownBlock (.slice Ag ng cg) = some b → Value.ownBlock (.slice Dg mg dg) ≠ some b
section
variable {w w1 w2 : World} {bs : List (TypeId × Array Value)} {A Ax Aw Dw Ag Dg : Option Addr} {n base bx cx nw cw mw dw bw bg ng cg mg dg : Nat} {ps xs rs gs rs2 gs2 : List Pkt} {lim lw : Int} {ex : List (Nat × TypeId × Array Value)}
theorem eg_below (h : EG w bs A n ps lim base bx Ax cx xs lw rs gs Aw nw cw Dw mw dw bw bg Ag ng cg Dg mg dg rs2 gs2 ex w1) (hb : Below w1.heap.size w1 w2) : EG w bs A n ps lim base bx Ax cx xs lw rs gs Aw nw cw Dw mw dw bw bg Ag ng cg Dg mg dg rs2 gs2 ex w2 :=
  ⟨fr_below h.fr hb, blk_below h.x hb (blk_lt h.x), own_below h.xo hb, blk_below h.wq hb (blk_lt h.wq), pr_below h.wp hb, pr_below h.wd hb, blk_below h.g hb (blk_lt h.g), own_below h.go hb, own_below h.gd hb,
    fun b t cs e => ⟨blk_below (h.ex b t cs e).1 hb (blk_lt (h.ex b t cs e).1), (h.ex b t cs e).2⟩, h.hw, h.hb, h.hx, h.hg, h.pl, h.awl, h.dwl, h.xl, h.gl, h.dl, h.sep⟩
theorem eg_drew (h : EG w bs A n ps lim base bx Ax cx xs lw rs gs Aw nw cw Dw mw dw bw bg Ag ng cg Dg mg dg rs2 gs2 ex w1) : EG w bs A n ps lim base bx Ax cx xs lw rs gs Aw nw cw Dw mw dw bw bg Ag ng cg Dg mg dg rs2 gs2 ex w1.drew :=
  ⟨fr_drew h.fr, h.x, h.xo, h.wq, h.wp, h.wd, h.g, h.go, h.gd, h.ex, h.hw, h.hb, h.hx, h.hg, h.pl, h.awl, h.dwl, h.xl, h.gl, h.dl, h.sep⟩
/-- one of the rows is marked: what lies elsewhere stays -/
theorem eg_far {row : Option Nat} (h : EG w bs A n ps lim base bx Ax cx xs lw rs gs Aw nw cw Dw mw dw bw bg Ag ng cg Dg mg dg rs2 gs2 ex w1) (hgr : w1.grownBy w2 row) (hr : ∀ b, row = some b → (base ≤ b ∧ b < bx) ∨ (bx < b ∧ b < bg)) :
    Fr w bs A n ps w2 ∧ Blk w2 bx 25 #[.int .i64 lim, (.slice Ax n cx)] ∧ Blk w2 bw 25 #[.int .i64 lw, (.slice Aw nw cw)] ∧ PR w2 Aw nw rs ∧ PR w2 Dw mw gs ∧ Blk w2 bg 25 #[.int .i64 lw, (.slice Ag ng cg)] ∧
      ∀ b t cs, (b, t, cs) ∈ ex → Blk w2 b t cs ∧ (b < base ∨ bg ≤ b) := by
  have h1 := h.hw
  have h2 := h.hb
  have h3 := h.hx
  have h4 := h.hg
  refine ⟨fr_grown h.fr hgr (fun b e => by have := hr b e; omega), blk_grownQ h.x hgr (fun e => by have := hr _ e.symm; omega), blk_grownQ h.wq hgr (fun e => by have := hr _ e.symm; omega), pr_grown h.wp hgr (fun hn b e e2 => by have := h.awl hn b e; have := hr b e2.symm; omega), pr_grown h.wd hgr (fun hn b e e2 => by have := h.dwl hn b e; have := hr b e2.symm; omega),
    blk_grownQ h.g hgr (fun e => by have := hr _ e.symm; omega), fun b t cs e => ⟨blk_grownQ (h.ex b t cs e).1 hgr (fun e2 => ?_), (h.ex b t cs e).2⟩⟩
  have := hr _ e2.symm
  have := (h.ex b t cs e).2
  omega
theorem own_apart {v : Value} {row : Option Nat} {W W2 : World} {base2 m : Nat} {vs : List Value} (h : W.ownsRow base2 51 4 v m vs) (hgr : W.grownBy W2 row) (hne : ∀ b, v.ownBlock = some b → row ≠ some b) : W2.ownsRow base2 51 4 v m vs :=
  h.kept hgr (by
    rcases hv : v.ownBlock with _ | b
    · exact .inl rfl
    · exact .inr (fun e => hne b hv e.symm))
theorem eg_markx {ys : List Pkt} (h : EG w bs A n ps lim base bx Ax cx xs lw rs gs Aw nw cw Dw mw dw bw bg Ag ng cg Dg mg dg rs2 gs2 ex w1) (hgr : w1.grownBy w2 (Value.ownBlock (.slice Ax n cx))) (ho : w2.ownsRow base 51 4 (.slice Ax n cx) n (pcells ys)) : EG w bs A n ps lim base bx Ax cx ys lw rs gs Aw nw cw Dw mw dw bw bg Ag ng cg Dg mg dg rs2 gs2 ex w2 := by
  have h3 := h.hg
  have hr : ∀ b, Value.ownBlock (.slice Ax n cx) = some b → (base ≤ b ∧ b < bx) ∨ (bx < b ∧ b < bg) := fun b e => .inl ⟨(h.xo.lt b e).1, h.xl b e⟩
  obtain ⟨f1, f2, f3, f4, f5, f6, f7⟩ := eg_far h hgr hr
  exact ⟨f1, f2, ho, f3, f4, f5, f6, own_apart h.go hgr (fun b e e2 => by have := (h.go.lt b e).1; have := h.xl b e2; omega), own_apart h.gd hgr (fun b e e2 => by have := (h.gd.lt b e).1; have := h.xl b e2; omega), f7, h.hw, h.hb, h.hx, h.hg, h.pl, h.awl, h.dwl, h.xl, h.gl, h.dl, h.sep⟩
theorem eg_markg {ys : List Pkt} (h : EG w bs A n ps lim base bx Ax cx xs lw rs gs Aw nw cw Dw mw dw bw bg Ag ng cg Dg mg dg rs2 gs2 ex w1) (hgr : w1.grownBy w2 (Value.ownBlock (.slice Ag ng cg))) (ho : w2.ownsRow (bx + 1) 51 4 (.slice Ag ng cg) ng (pcells ys)) : EG w bs A n ps lim base bx Ax cx xs lw rs gs Aw nw cw Dw mw dw bw bg Ag ng cg Dg mg dg ys gs2 ex w2 := by
  have hr : ∀ b, Value.ownBlock (.slice Ag ng cg) = some b → (base ≤ b ∧ b < bx) ∨ (bx < b ∧ b < bg) := fun b e => .inr ⟨(h.go.lt b e).1, h.gl b e⟩
  obtain ⟨f1, f2, f3, f4, f5, f6, f7⟩ := eg_far h hgr hr
  exact ⟨f1, f2, own_apart h.xo hgr (fun b e e2 => by have := (h.go.lt b e2).1; have := h.xl b e; omega), f3, f4, f5, f6, ho, own_apart h.gd hgr (fun b e e2 => h.sep b e2 e), f7, h.hw, h.hb, h.hx, h.hg, h.pl, h.awl, h.dwl, h.xl, h.gl, h.dl, h.sep⟩
theorem eg_markd {ys : List Pkt} (h : EG w bs A n ps lim base bx Ax cx xs lw rs gs Aw nw cw Dw mw dw bw bg Ag ng cg Dg mg dg rs2 gs2 ex w1) (hgr : w1.grownBy w2 (Value.ownBlock (.slice Dg mg dg))) (ho : w2.ownsRow (bx + 1) 51 4 (.slice Dg mg dg) mg (pcells ys)) : EG w bs A n ps lim base bx Ax cx xs lw rs gs Aw nw cw Dw mw dw bw bg Ag ng cg Dg mg dg rs2 ys ex w2 := by
  have hr : ∀ b, Value.ownBlock (.slice Dg mg dg) = some b → (base ≤ b ∧ b < bx) ∨ (bx < b ∧ b < bg) := fun b e => .inr ⟨(h.gd.lt b e).1, h.dl b e⟩
  obtain ⟨f1, f2, f3, f4, f5, f6, f7⟩ := eg_far h hgr hr
  exact ⟨f1, f2, own_apart h.xo hgr (fun b e e2 => by have := (h.gd.lt b e2).1; have := h.xl b e; omega), f3, f4, f5, f6, own_apart h.go hgr (fun b e e2 => h.sep b e e2), ho, f7, h.hw, h.hb, h.hx, h.hg, h.pl, h.awl, h.dwl, h.xl, h.gl, h.dl, h.sep⟩
/-- the cells that the walk reads -/
theorem eg_cells (h : EG w bs A n ps lim base bx Ax cx xs lw rs gs Aw nw cw Dw mw dw bw bg Ag ng cg Dg mg dg rs2 gs2 ex w1) : (w1.cell? ⟨bx, 0, none⟩ = some (.int .i64 lim) ∧ w1.cell? ⟨bx, 1, none⟩ = some (.slice Ax n cx)) ∧ (w1.cell? ⟨bw, 0, none⟩ = some (.int .i64 lw) ∧ w1.cell? ⟨bw, 1, none⟩ = some (.slice Aw nw cw)) ∧ (w1.cell? ⟨bg, 0, none⟩ = some (.int .i64 lw) ∧ w1.cell? ⟨bg, 1, none⟩ = some (.slice Ag ng cg)) :=
  ⟨⟨blk_cell h.x 0, blk_cell h.x 1⟩, ⟨blk_cell h.wq 0, blk_cell h.wq 1⟩, blk_cell h.g 0, blk_cell h.g 1⟩
theorem eg_ws (h : EG w bs A n ps lim base bx Ax cx xs lw rs gs Aw nw cw Dw mw dw bw bg Ag ng cg Dg mg dg rs2 gs2 ex w1) : bw < w1.heap.size ∧ bx < w1.heap.size ∧ bg < w1.heap.size ∧ w.heap.size + bs.length ≤ w1.heap.size := ⟨blk_lt h.wq, blk_lt h.x, blk_lt h.g, h.fr.lt⟩
end
end Go.Proofs.Ytapoahoknlaeaab
