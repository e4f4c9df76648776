/-
  Chapter 11: the draw of packets for BytesByPeer. Conditions: none.
-/
import Derived.Test.YtaccbmgbkalknaaDrawList
namespace Go.Proofs.Ytaccbmgbkalknaa
open Go.RowKit

set_option maxHeartbeats 400000 in
theorem drawBytes_any (A : Option Addr) (n c : Nat) (w : World) (h : Bytes w A n c) :
    Calls Try.prog 19 #[.slice A n c] w (DrawnPost w) := by
  go_enter Try.func19, Try.ntmps19
  go_wp2_with fail
  refine (open_any A n c _ h).mono ?_
  rintro e w1 ⟨g, rfl, hg, hb, hr⟩
  go_wp2_with fail
  refine (l1Some_any g 0 _ hr (by omega)).mono ?_
  rintro e w2 hs
  obtain ⟨A2, n2, c2, ps, rfl, h1, h2, h3, h4, h5⟩ := drawn_end hg hb hs
  have H := Lib.hid (And.intro h1 (And.intro h2 (And.intro h3 (And.intro h4 h5))))
  clear h1 h2 h3 h4 h5 hs hr hb
  go_wp2
  go_ret
  exact ⟨A2, n2, c2, ps, rfl, H.out.1, H.out.2.1, H.out.2.2.1, H.out.2.2.2.1, H.out.2.2.2.2⟩
end Go.Proofs.Ytaccbmgbkalknaa
