/-
  Proved: 'Rows.FloorHoldsSaid': the call of 'pitfloor/pitlaw2.FloorHolds' returns true at every mode and every slice of commands: behind any commands what each trader has put by is just what its orders need that rest and wait; all cash and stock are what was paid and given; the book is never crossed, and nobody trades with oneself, where that is not allowed. No condition.
-/
import Derived.Test.YtifjhlgjgnnnpaaGreatRows
import Derived.WalkKit
import Derived.ProofKit
import Derived.OpenShut
import Derived.Test.YtifjhlgjgnnnpaaGreatMAPure
import Derived.Test.YtifjhlgjgnnnpaaGreatFHWalk
namespace Go.Proofs.YtifjhlgjgnnnpaaGreat.floorHolds
open Go.ChangeShapes Go.WideShapes Go.ChangeAt Go.RowKit
theorem own:ownKnob Tryz.prog.godebug=none:=by kernel_rfl
set_option maxRecDepth 100000 in
theorem lifted(os:Os)(started:os.Started)(H:Type)(enc:TypeId × Value→H) :
  ReturnsInHanded {} Tryz.checked os 3 .any (Rows.floorHoldsSpec.pre6 enc Tryz.prog Tryz.f3 Rows.floorHoldsRow.domain false) (Rows.floorHoldsSpec.post enc Tryz.prog Tryz.f3 false true false false):=by
 refine returnsInHanded_of_change (C:=Tryz.checked) own started (by kernel_rfl) Tryz.func3
  (ChangeSpec.witness6 (enc:=enc) (C:=Tryz.checked) false ⟨#[],#[.int .i64 0,.slice none 0 0],[]⟩ 8 (by kernel_rfl) (by kernel_rfl) (by kernel_rfl) (by kernel_rfl)) ?_
 intro W base args ds gs before hval0 hW hcnd _
 have hval:∀ (j:Nat) t v,Tryz.f3.params[j]?=some t→args[j]?=some v→Value.okWide Tryz.prog W .any base t v:=hval0
 have hW':=hW
 obtain⟨p,q,hA0,hV,rfl,hfz,hnd⟩:=hW
 have hA:DataW.TrodAll enc Tryz.prog W 0 (fun _=>true) true Tryz.f3.params.toList args.toList ds p:=hA0
 rw[Tryz.params3] at hA hval
 obtain⟨v0,vs0,d0,ds0,p0,q0,hargs,rfl,rfl,h0,r0⟩:=trodAll_cons hA
 obtain⟨v1,vs1,d1,ds1,p1,q1,rfl,rfl,rfl,h1,r1⟩:=trodAll_cons r0
 obtain⟨rfl,rfl,rfl⟩:=trodAll_nil r1
 obtain rfl:args=#[v0,v1]:=by cases args;simp_all
 obtain⟨rfl,rfl⟩:=trodVars_none hV
 obtain⟨a0,rfl,rfl,rfl,w0⟩:=open_int Tryz.underlying3 (hval 0 3 v0 rfl rfl) h0
 obtain⟨zs,hS⟩:=flr.zFw (hval 1 22 v1 rfl rfl) h1
 obtain⟨sq,sc,rfl,-⟩:=hS.form
 clear hA0 hval0
 simp only[jH,jU] at hW'
 have hlt:∀x∈p1,x.block<W.heap.size:=fun x hx=>by simpa using hW'.lt x hx
 have e1:Rows.floorHoldsSpec.fn H ([.lit (.int .i64 a0),d1]++[]) = { results:=[.lit (.bool true)],args:=[.lit (.int .i64 a0),d1] }:=by simp[Rows.floorHoldsSpec]
 refine(flr.zJy a0 sq _ sc zs W hS).mono fun e W' ⟨he,hI⟩=>?_
 subst he
 refine⟨_,rfl,_,_,_,[],[]++(p1++[]),[],(by simpa using hW'),?_,?_,?_,hI.frame _,fun h=>by cases h⟩
 ·rw[e1];exact trodAll_mk1 (shut_bool Tryz.underlying4 true)
 ·rw[e1];exact trodAll_cons_mk (shut_int Tryz.underlying3 w0) (trodAll_cons_mk (Below.trod flr.zQr (by kernel_rfl) (of_decide_eq_true (by kernel_rfl)) h1 hI hlt) trodAll_mk0)
 ·rw[e1];rfl
theorem proved:Rows.FloorHoldsSaid:=
 OpenClaim.holds_of_wide 3 Tryz.f3 rfl rfl rfl rfl rfl rfl rfl ⟨rfl,rfl,rfl,rfl,rfl⟩ rfl rfl rfl rfl rfl (by kernel_rfl) Tryz.func3 (by kernel_rfl)
  (of_decide_eq_true (by kernel_rfl)) (by unfold Func.isWrapper;first|(rw[if_pos (by decide +kernel)];kernel_rfl)|(rw[if_neg (by decide +kernel)];exact⟨rfl,rfl⟩))
  (fun os started H enc _=>lifted os started H enc)
#print axioms proved
end Go.Proofs.YtifjhlgjgnnnpaaGreat.floorHolds
namespace Go.Proofs.YtifjhlgjgnnnpaaGreat
theorem floorHolds_holds:Rows.FloorHoldsSaid:=floorHolds.proved
end Go.Proofs.YtifjhlgjgnnnpaaGreat
