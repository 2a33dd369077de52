/-
  What a function with deferred calls leaves doesn't hang on slots that are no results; nothing of the program stands here.
-/
import Derived.Defers
import Derived.Recover
namespace Go.Proofs.Ytdgohbhffjinmaa
open Go

theorem leaves_put {P : Program} {fn : Func} {j : Nat} {v : Value} {R : Ending → World → Prop} (hr : ∀ t : Array Value, results fn (t.setIfInBounds j v) = results fn t) :
    ∀ (ds : List Deferred) (t : Array Value) (u : FrameMode) (w : World), Leaves P fn (t.setIfInBounds j v) R ds u w → Leaves P fn t R ds u w
  | [], t, .returning, _, h => by
    obtain ⟨x, h1, h2⟩ := h
    rw [hr] at h1
    exact ⟨x, h1, h2⟩
  | [], _, .panicking _, _, h => h
  | [], _, .run, _, h => h
  | _ :: ds, t, _, _, ⟨hu, fv, cap, f, args, e1, e2, e3⟩ => ⟨hu, fv, cap, f, args, e1, e2, e3.mono fun e u' w' hh => by
      cases e with
      | returned _ => exact leaves_put hr ds t _ _ hh
      | panicked _ => exact leaves_put hr ds t _ _ hh
      | outgrown => exact hh⟩
theorem panic_put {P : Program} {fn : Func} {j : Nat} {v : Value} {R : Ending → World → Prop} (hr : ∀ t : Array Value, results fn (t.setIfInBounds j v) = results fn t) (c : List PanicEntry) (a : Act) (w : World) (h : bodyPostD P fn R (.panic c) (a.put (some j) v) w) : bodyPostD P fn R (.panic c) a w :=
  leaves_put hr a.defers a.tmps (.panicking c) w h
end Go.Proofs.Ytdgohbhffjinmaa
