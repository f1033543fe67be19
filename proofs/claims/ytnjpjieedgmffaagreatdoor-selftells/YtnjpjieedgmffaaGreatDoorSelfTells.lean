/-
  Proved: 'Rows.SelfTellsCardSaid': the call of 'pitfloor/pitlaw1.SelfTells' returns true at every book, order and mode: what becomes of any order that comes to any book, where nobody is to trade with oneself, is what the document's answer says. No condition on the input; the one package-level variable that the road reads, errors.errorType, is tied to the program's text. No condition on the input; the one package-level variable that the road reads, errors.errorType, is tied to the program's text.
  The card ties that variable to the pruned copy of the project that this seat's roots load; it says nothing of the project's other packages. That nothing else writes it is the translator's report.
-/
import Derived.Test.YtnjpjieedgmffaaGreatDoorRows
import Derived.Test.YtnjpjieedgmffaaGreatDoorTie
import Derived.Test.YtnjpjieedgmffaaGreatDoorCards
import Derived.Test.YtnjpjieedgmffaaGreatDoorMeeArg
import Derived.WalkKit
import Derived.ProofKit
import Derived.OpenShut
import Derived.LaidLaws
import Derived.LaidHandle
import Derived.LaidMore
import Derived.SevenTiedAt
namespace Go.Proofs.YtnjpjieedgmffaaGreatDoor.selfTells
open Go.ChangeShapes Go.WideShapes Go.ChangeAt Go.RowKit
theorem own:ownKnob Tryz.prog.godebug=none:=by kernel_rfl
theorem oneRow:((List.range 226).filter fun t=>Tryz.prog.rowNamed t [101,114,114,111,114])=[35]:=by kernel_rfl
theorem tsize:Tryz.prog.types.size=226:=by kernel_rfl
theorem gvar:Tryz.prog.globalNamed "errors.errorType" = some 0:=by kernel_rfl
theorem laid_of {W:World}(h:laidMetH Tryz.prog [("errors.errorType",Rows.laid_errors_errorType)] W):told.Laid W:=by
 have h' : laidMet Tryz.prog [] W∧handlesMet Tryz.prog [("errors.errorType",Rows.laid_errors_errorType)] W:=h
 obtain⟨name,u,ty,e1,e2,e3,e4,e5⟩:=h'.2 _ (List.mem_singleton.2 rfl)
 have en:name=[101,114,114,111,114]:=(Option.some.inj e1).symm
 subst en
 have hu:some u=some 162:=e2.symm.trans (by kernel_rfl)
 obtain rfl:=Option.some.inj hu
 have hm:ty∈(List.range 226).filter fun t=>Tryz.prog.rowNamed t [101,114,114,111,114]:=List.mem_filter.2 ⟨List.mem_range.2 (by rw[←tsize];exact e3),e4⟩
 rw[oneRow] at hm
 obtain rfl:=List.mem_singleton.1 hm
 have hh:typeHandle Tryz.prog 35=.pointer (some ⟨1,35,none⟩):=by kernel_rfl
 rw[hh] at e5
 simpa [told.Laid] using World.var?_cell gvar e5 0
theorem door_met (os:Os) (args:Array Value):laidMetH Tryz.prog [("errors.errorType",Rows.laid_errors_errorType)] ((World.doorLaid Tryz.prog 400 os).forCall (fun _ _=>0) ⟨#[],args,[]⟩).memory:=
 laidMetH_of_parts3 (fuel:=8) (laidMet_of_run' 8 (by kernel_rfl) (by kernel_rfl)) (by kernel_rfl) (by kernel_rfl)
set_option maxRecDepth 100000 in
theorem lifted (os:Os) (started:os.Started) (H:Type) (enc:TypeId × Value→H) :
  ReturnsInHanded {} Tryz.checked os 3 .any (fun w args=>(Rows.selfTellsSpec.pre enc Tryz.prog Tryz.f3 [] false w args∧laidMetH Tryz.prog [("errors.errorType",Rows.laid_errors_errorType)] w)∧sizedMet enc Tryz.prog Tryz.f3 (OpenSpec.ofChange Rows.selfTellsSpec) false w args)
   (Rows.selfTellsSpec.post enc Tryz.prog Tryz.f3 false true false false):=by
 refine returnsInHanded_of_change_and (C:=Tryz.checked) (X:=fun w _=>laidMetH Tryz.prog [("errors.errorType",Rows.laid_errors_errorType)] w) (fun _ _ _ hh h=>h.of_heap hh) own started (by kernel_rfl) Tryz.func3
  (ChangeSpec.witness_shaped (enc:=enc) (C:=Tryz.checked) (os:=os) (X:=fun w _=>laidMetH Tryz.prog [("errors.errorType",Rows.laid_errors_errorType)] w) false (World.doorLaid Tryz.prog 400 os) #[.agg #[.slice none 0 0,.slice none 0 0],.agg #[.int .i64 0,.int .i64 0,.int .i64 0,.int .i64 0,.int .i64 0,.int .i64 0,.int .i64 0,.int .i64 0],.int .i64 0] 8 rfl (World.shaped_of_RefB (by kernel_rfl) (by kernel_rfl)) (by kernel_rfl) (by kernel_rfl) (by kernel_rfl) (door_met os _)) ?_
 intro W base args ds gs before hval0 hW _ _ hL _
 have hval:∀ (j:Nat) t v,Tryz.f3.params[j]?=some t→args[j]?=some v→Value.okWide Tryz.prog W .any base t v:=hval0
 have hW':=hW
 obtain⟨p,q,hA0,hV,rfl,hfz,hnd⟩:=hW
 have hA:DataW.TrodAll enc Tryz.prog W 0 (fun _=>true) true Tryz.f3.params.toList args.toList ds p:=hA0
 rw[Tryz.params3] at hA hval
 obtain⟨v0,vs0,d0,ds0,p0,q0,hargs,rfl,rfl,h0,r0⟩:=trodAll_cons hA
 obtain⟨v1,vs1,d1,ds1,p1,q1,rfl,rfl,rfl,h1,r1⟩:=trodAll_cons r0
 obtain⟨v2,vs2,d2,ds2,p2,q2,rfl,rfl,rfl,h2,r2⟩:=trodAll_cons r1
 obtain⟨rfl,rfl,rfl⟩:=trodAll_nil r2
 obtain rfl:args=#[v0,v1,v2]:=by cases args;simp_all
 obtain⟨rfl,rfl⟩:=trodVars_none hV
 obtain⟨bp0,bq0,bm0,bn0,bc0,bd0,bb0,bs0,rfl,hB0,hC0⟩:=bok.open_book (hval 0 24 v0 rfl rfl) h0
 obtain⟨oa1,ob1,oc1,od1,oe1,of1,og1,oh1,rfl⟩:=mee.open_order (hval 1 26 v1 rfl rfl) h1
 obtain⟨a2,rfl,rfl,rfl,w2⟩:=open_int Tryz.underlying3 (hval 2 3 v2 rfl rfl) h2
 clear hA0 hval0
 simp only[List.append_nil] at hW'
 have e1:Rows.selfTellsSpec.fn H ([d0,d1,.lit (.int .i64 a2)]++[]) = { results:=[.lit (.bool true)],args:=[d0,d1,.lit (.int .i64 a2)] }:=by simp[Rows.selfTellsSpec]
 refine(walk bp0 bq0 bm0 bn0 bc0 bd0 bb0 bs0 hB0 hC0 oa1 ob1 oc1 od1 oe1 of1 og1 oh1 a2 W (told.Inv.start (laid_of hL))).mono fun e W' ⟨he,hI⟩=>?_
 subst he
 refine⟨_,rfl,_,_,_,[],(p0++(p1++([]++[]))),[],hW',?_,?_,?_,hI.2.frame _,fun h=>by cases h⟩
 ·rw[e1];exact trodAll_mk1 (shut_bool Tryz.underlying4 true)
 ·rw[e1];exact(trodAll_cons_mk (Below.trod que.laidOut (by kernel_rfl) (of_decide_eq_true (by kernel_rfl)) h0 hI.2 (fun x hx=>by simpa using hW'.lt x (by simp[hx]))) (trodAll_cons_mk (Below.trod que.laidOut (by kernel_rfl) (of_decide_eq_true (by kernel_rfl)) h1 hI.2 (fun x hx=>by simpa using hW'.lt x (by simp[hx]))) (trodAll_cons_mk (shut_int Tryz.underlying3 w2) trodAll_mk0)))
 ·rw[e1];rfl
theorem row_holds:Rows.SelfTellsSaid:=
 OpenClaim.holds_of_wide 3 Tryz.f3 rfl rfl rfl rfl rfl rfl rfl ⟨rfl,rfl,rfl,rfl,rfl⟩ rfl rfl rfl rfl rfl (by kernel_rfl) Tryz.func3 (by kernel_rfl)
  (of_decide_eq_true (by kernel_rfl)) (by unfold Func.isWrapper;rw[if_neg (of_decide_eq_false (by kernel_rfl))];exact⟨rfl,rfl⟩)
  (fun os started H enc _=>lifted os started H enc)
end Go.Proofs.YtnjpjieedgmffaaGreatDoor.selfTells
namespace Go.Proofs.YtnjpjieedgmffaaGreatDoor
theorem selfTells_holds:Rows.SelfTellsCardSaid:=
 Claim7.holds_tied_plain_at .later [] [.handle] true (true,"872cca96591298dc3f860dac252daeee5a5150c608f7529d4dcdc8edaa8e6445") true
  selfTells.row_holds (fun _ h=>by cases h) (by kernel_rfl) (fun _ h=>by cases h) selfTells_row_tie rfl ⟨rfl,rfl⟩ (by kernel_rfl) rfl
  (fun f fn hf hfn=>by
   obtain rfl:f=3:=Option.some.inj ((show Tryz.prog.funcNamed Tryz.f3.name=some 3 by kernel_rfl).symm.trans hf) |>.symm
   obtain rfl:fn=Tryz.f3:=(Option.some.inj (Tryz.func3.symm.trans hfn)).symm
   exact⟨by kernel_rfl,fun j t ht=>by
    rw[Tryz.params3] at ht
    rcases j with _|j
    ·obtain rfl:t=24:=by simpa using ht.symm
     exact(show Tryz.prog.wantsStandIn 24=false by kernel_rfl)
    rcases j with _|j
    ·obtain rfl:t=26:=by simpa using ht.symm
     exact(show Tryz.prog.wantsStandIn 26=false by kernel_rfl)
    rcases j with _|j
    ·obtain rfl:t=3:=by simpa using ht.symm
     exact(show Tryz.prog.wantsStandIn 3=false by kernel_rfl)
    simp at ht⟩)
  (by kernel_rfl)
#print axioms selfTells_holds
end Go.Proofs.YtnjpjieedgmffaaGreatDoor
