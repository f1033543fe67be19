/- Contracts over this seat's translation: side.Drop at every side and id. -/
import Derived.Test.YtifgikhdlilobaaDoorSidDrop2
namespace Go.Proofs.YtifgikhdlilobaaDoor.sid
open Go.RowKit Go.Proofs.YtifgikhdlilobaaDoor.spn Go.Proofs.YtifgikhdlilobaaDoor.que Go.Maps

/-- Drop, at every side and id. -/
theorem drop_any (s : Int) (v : Value) (ls : List L) (id : Int) (w : World) (h : LS w v ls) (hid : (Lit.int .i64 id).wf = true) :
    Calls Tryd.prog 14 #[.int .i64 s, v, .int .i64 id] w fun x w' => DropPost s ls id w x w' := by
  by_cases h0 : findE s ls id = 0
  · obtain ⟨hs, i, k, hi, hk, e1, e2⟩ := find_spot h0
    have hfv : findV s ls id = .tuple #[.int .i64 i, .int .i64 k, .nilIface] := by unfold findV; rw [e2, h0, errV_zero]
    rcases h with ⟨rfl, rfl⟩ | ⟨b, o, c, rfl, h2, h3, h4, h5⟩
    · simp at hi
    · obtain ⟨l, hl⟩ : ∃ l, ls[i]! = l := ⟨_, rfl⟩
      obtain ⟨p, zs⟩ := l
      have hle : ls[i] = ⟨p, zs⟩ := by rw [← hl, getE _ _ hi]
      have hk2 : k < zs.length := by rw [hle] at hk; exact hk
      obtain ⟨r, hr⟩ : ∃ r, zs[k]! = r := ⟨_, rfl⟩
      obtain ⟨r1, r2, r3, r4, r5⟩ := r
      refine drop_good s b o c ls.length ls id i k p zs r1 r2 r3 r4 r5 w rfl h4 h2 h3 h5 hid hs hfv hi hl hk2 hr (DropPost s ls id w) (fun W v3 hW hL => ⟨hW, v3, ?_, ?_⟩)
      · unfold dropRest dropPrice
        rw [if_pos h0, if_pos h0, e2, h0, errV_zero]
        simp only [Int.toNat_natCast]
        rw [hl]
        simp only []
        rw [hr]
        rfl
      · unfold dropE
        rw [if_pos h0, e2]
        simp only [Int.toNat_natCast]
        exact hL
  · obtain ⟨q, m, c, rfl⟩ := ls_form h
    exact drop_err s q m c ls id w h hid h0
end Go.Proofs.YtifgikhdlilobaaDoor.sid
