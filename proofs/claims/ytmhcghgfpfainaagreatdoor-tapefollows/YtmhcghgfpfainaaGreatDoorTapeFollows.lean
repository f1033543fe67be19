/-
  Proved: 'Rows.TapeFollowsCardSaid': the call of 'pitfloor/pitlaw3.TapeFollows' returns true at every mode, every slice of commands and every cut: a floor's tape tells what rests on its books, and a tape cut in two tells the same volume. No condition on the input; the one package-level variable that the road reads, errors.errorType, is tied to the program's text.
  The card ties that variable to the pruned copy of the project that this seat's roots load; it says nothing of the project's other packages. That nothing else writes it is the translator's report.
-/
import Derived.Test.YtmhcghgfpfainaaGreatDoorTie
import Derived.Test.YtmhcghgfpfainaaGreatDoorCards
import Derived.Test.YtmhcghgfpfainaaGreatDoorTFTie
import Derived.LaidLaws
import Derived.LaidHandle
import Derived.LaidMore
namespace Go.Proofs.YtmhcghgfpfainaaGreatDoor.tapeFollows
open Go.ChangeShapes Go.WideShapes Go.ChangeAt Go.RowKit
theorem own:ownKnob Tryz.prog.godebug=none:=by kernel_rfl
theorem oneRow:((List.range 334).filter fun t=>Tryz.prog.rowNamed t [101,114,114,111,114])=[25]:=by kernel_rfl
theorem tsize:Tryz.prog.types.size=334:=by kernel_rfl
theorem gvar:Tryz.prog.globalNamed "errors.errorType" = some 0:=by kernel_rfl
theorem zSn{W:World}(h:laidMetH Tryz.prog [("errors.errorType",Rows.laid_errors_errorType)] W):told.Laid W:=by
 have h' : laidMet Tryz.prog [] W∧handlesMet Tryz.prog [("errors.errorType",Rows.laid_errors_errorType)] W:=h
 obtain⟨name,u,ty,e1,e2,e3,e4,e5⟩:=h'.2 _ (List.mem_singleton.2 rfl);have en:name=[101,114,114,111,114]:=(Option.some.inj e1).symm;subst en;have hu:some u=some 213:=e2.symm.trans (by kernel_rfl)
 obtain rfl:=Option.some.inj hu;have hm:ty∈(List.range 334).filter fun t=>Tryz.prog.rowNamed t [101,114,114,111,114]:=List.mem_filter.2 ⟨List.mem_range.2 (by rw[←tsize];exact e3),e4⟩
 rw[oneRow] at hm;obtain rfl:=List.mem_singleton.1 hm;have hh:typeHandle Tryz.prog 25=.pointer (some ⟨1,25,none⟩):=by kernel_rfl
 rw[hh] at e5;simpa [told.Laid] using World.var?_cell gvar e5 0
theorem zQk(os:Os)(args:Array Value):laidMetH Tryz.prog [("errors.errorType",Rows.laid_errors_errorType)] ((World.doorLaid Tryz.prog 400 os).forCall (fun _ _=>0) ⟨#[],args,[]⟩).memory:=
 laidMetH_of_parts3 (fuel:=8) (laidMet_of_run' 8 (by kernel_rfl) (by kernel_rfl)) (by kernel_rfl) (by kernel_rfl)
set_option maxRecDepth 100000 in
theorem lifted(os:Os)(started:os.Started)(H:Type)(enc:TypeId × Value→H) :
  ReturnsInHanded {} Tryz.checked os 3 .any (fun w args=>(Rows.tapeFollowsSpec.pre enc Tryz.prog Tryz.f3 [] false w args∧laidMetH Tryz.prog [("errors.errorType",Rows.laid_errors_errorType)] w)∧sizedMet enc Tryz.prog Tryz.f3 (OpenSpec.ofChange Rows.tapeFollowsSpec) false w args)
   (Rows.tapeFollowsSpec.post enc Tryz.prog Tryz.f3 false true false false):=by
 refine returnsInHanded_of_change_and (C:=Tryz.checked) (X:=fun w _=>laidMetH Tryz.prog [("errors.errorType",Rows.laid_errors_errorType)] w) (fun _ _ _ hh h=>h.of_heap hh) own started (by kernel_rfl) Tryz.func3
  (ChangeSpec.witness_shaped (enc:=enc) (C:=Tryz.checked) (os:=os) (X:=fun w _=>laidMetH Tryz.prog [("errors.errorType",Rows.laid_errors_errorType)] w) false (World.doorLaid Tryz.prog 400 os) #[.int .i64 0,.slice none 0 0,.int .i64 0] 8 rfl (World.shaped_of_RefB (by kernel_rfl) (by kernel_rfl)) (by kernel_rfl) (by kernel_rfl) (by kernel_rfl) (zQk os _)) ?_
 intro W base args ds gs before cC hW _ _ hL _;have Bh:∀ (j:Nat) t v,Tryz.f3.params[j]?=some t→args[j]?=some v→Value.okWide Tryz.prog W .any base t v:=cC;have hW':=hW;obtain⟨p,q,ub,hV,rfl,Pn,uM⟩:=hW;have hA:DataW.TrodAll enc Tryz.prog W 0 (fun _=>true) true Tryz.f3.params.toList args.toList ds p:=ub
 rw[Tryz.params3] at hA Bh;obtain⟨v0,vs0,d0,ds0,p0,q0,hargs,rfl,rfl,h0,r0⟩:=trodAll_cons hA;obtain⟨v1,vs1,d1,ds1,p1,q1,rfl,rfl,rfl,h1,r1⟩:=trodAll_cons r0;obtain⟨v2,vs2,d2,ds2,p2,q2,rfl,rfl,rfl,h2,r2⟩:=trodAll_cons r1;obtain⟨rfl,rfl,rfl⟩:=trodAll_nil r2;obtain rfl:args=#[v0,v1,v2]:=by cases args;simp_all
 obtain⟨rfl,rfl⟩:=trodVars_none hV;obtain⟨a0,rfl,rfl,rfl,w0⟩:=open_int Tryz.underlying3 (Bh 0 3 v0 rfl rfl) h0;obtain⟨zs1,M9⟩:=flr.zGs (Bh 1 22 v1 rfl rfl) h1;obtain⟨a2,rfl,rfl,rfl,w2⟩:=open_int Tryz.underlying3 (Bh 2 3 v2 rfl rfl) h2;clear ub cC;simp only[jH] at hW';have e1:Rows.tapeFollowsSpec.fn H ([.lit (.int .i64 a0),d1,.lit (.int .i64 a2)]++[]) = { results:=[.lit (.bool true)],args:=[.lit (.int .i64 a0),d1,.lit (.int .i64 a2)] }:=by simp[Rows.tapeFollowsSpec]
 refine(walk a0 v1 zs1 M9 a2 W (told.Inv.start (zSn hL))).mono fun e W' ⟨he,hI⟩=>?_
 subst he;refine⟨_,rfl,_,_,_,[],([]++(p1++([]++[]))),[],hW',?_,?_,?_,hI.2.frame _,fun h=>by cases h⟩
 ·rw[e1];exact trodAll_mk1 (shut_bool Tryz.underlying4 true)
 ·rw[e1];exact(trodAll_cons_mk (shut_int Tryz.underlying3 w0) (trodAll_cons_mk (Below.trod flr.zSm (by kernel_rfl) (of_decide_eq_true (by kernel_rfl)) h1 hI.2 (fun x hx=>by simpa using hW'.lt x (by simp[hx]))) (trodAll_cons_mk (shut_int Tryz.underlying3 w2) trodAll_mk0)))
 ·rw[e1];rfl
theorem zNL:Rows.TapeFollowsSaid:=
 OpenClaim.holds_of_wide 3 Tryz.f3 rfl rfl rfl rfl rfl rfl rfl ⟨rfl,rfl,rfl,rfl,rfl⟩ rfl rfl rfl rfl rfl (by kernel_rfl) Tryz.func3 (by kernel_rfl)
  (of_decide_eq_true (by kernel_rfl)) (by unfold Func.isWrapper;rw[if_neg (of_decide_eq_false (by kernel_rfl))];exact⟨rfl,rfl⟩)
  (fun os started H enc _=>lifted os started H enc)
end Go.Proofs.YtmhcghgfpfainaaGreatDoor.tapeFollows
namespace Go.Proofs.YtmhcghgfpfainaaGreatDoor
theorem tapeFollows_holds:Rows.TapeFollowsCardSaid:=
 Claim7.holds_tied_plain_at .later [] [.handle] true (true,"b0f3f1c485cd5e60a482e5b4b76751b2baf529e5b3a9ea25b12b781476a165be") true
  tapeFollows.zNL (fun _ h=>by cases h) (by kernel_rfl) (fun _ h=>by cases h) tapeFollows_row_tie rfl ⟨rfl,rfl⟩ (by kernel_rfl) rfl
  (fun f fn hf Et=>by
   obtain rfl:f=3:=Option.some.inj ((show Tryz.prog.funcNamed Tryz.f3.name=some 3 by kernel_rfl).symm.trans hf) |>.symm
   obtain rfl:fn=Tryz.f3:=(Option.some.inj (Tryz.func3.symm.trans Et)).symm;exact⟨by kernel_rfl,fun j t ht=>by
    rw[Tryz.params3] at ht;rcases j with _|j
    ·obtain rfl:t=3:=(by simpa using ht.symm);exact(show Tryz.prog.wantsStandIn 3=false by kernel_rfl)
    rcases j with _|j
    ·obtain rfl:t=22:=(by simpa using ht.symm);exact(show Tryz.prog.wantsStandIn 22=false by kernel_rfl)
    rcases j with _|j
    ·obtain rfl:t=3:=(by simpa using ht.symm);exact(show Tryz.prog.wantsStandIn 3=false by kernel_rfl)
    simp at ht⟩)
  (by kernel_rfl)
#print axioms tapeFollows_holds
end Go.Proofs.YtmhcghgfpfainaaGreatDoor
