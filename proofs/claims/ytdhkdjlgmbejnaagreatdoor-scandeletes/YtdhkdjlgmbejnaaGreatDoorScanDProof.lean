/- By an AI agent. -/
import Derived.Test.YtdhkdjlgmbejnaaGreatDoorScanDFact
import Derived.Test.YtdhkdjlgmbejnaaGreatDoorScanDn
import Derived.Test.YtdhkdjlgmbejnaaGreatDoorTie
import Derived.Test.YtdhkdjlgmbejnaaGreatDoorCards
import Derived.SevenTiedAt
import Derived.OpenShut
namespace Go.Proofs.YtdhkdjlgmbejnaaGreatDoor
open Go.ChangeShapes Go.WideShapes Go.ChangeAt Go.RowKit Go.Lib Go.Shelf
theorem scanDeletes_plain:(Rows.scanDeletesRow.laid.filter fun x=>x.2.handleName?.isNone)=plainListX:=by kernel_rfl
theorem scanDeletes_handle : (Rows.scanDeletesRow.laid.filter fun x => x.2.handleName?.isSome) = [("errors.errorType", Rows.laid_errors_errorType)] := by kernel_rfl
set_option maxRecDepth 100000 in
theorem scanDeletes_lifted (os:Os) (started:os.Started) (H:Type) (enc:TypeId×Value→H) :
   ReturnsInHanded {} Tryz.checked os 5 .any (fun w args=>(Rows.scanDeletesSpec.pre enc Tryz.prog Tryz.f5 [] false w args∧laidMetH Tryz.prog Rows.scanDeletesRow.laid w)∧sizedMet enc Tryz.prog Tryz.f5 (OpenSpec.ofChange Rows.scanDeletesSpec) false w args)
     (Rows.scanDeletesSpec.post enc Tryz.prog Tryz.f5 false true false false):=by
 refine returns_and_shaped (C:=Tryz.checked) (X:=fun w _=>laidMetH Tryz.prog Rows.scanDeletesRow.laid w) (fun _ _ _ hh h=>h.of_heap hh) Tryz.own started (by kernel_rfl) Tryz.func5
   (ChangeSpec.witness_shaped (enc:=enc) (C:=Tryz.checked) (os:=os) (X:=fun w _=>laidMetH Tryz.prog Rows.scanDeletesRow.laid w) false (tellsWorldX os) #[.slice none 0 0,.agg #[.int .i64 0,.int .i64 0,.int .i64 0,.int .i64 0,.int .i64 0,.string ⟨#[]⟩,.slice none 0 0],.slice none 0 0] 8 (tellsWorldX_os os)
     (tellsWorldX_shaped os) (by kernel_rfl) (by kernel_rfl) (by kernel_rfl)
     (tellsWorldX_met os _ scanDeletes_plain scanDeletes_handle)) ?_
 intro W base args ds gs before hval0 hW hsh hL
 have hval:∀(j:Nat) t v,Tryz.f5.params[j]? =some t→args[j]? =some v→Value.okWide Tryz.prog W .any base t v:=hval0
 have hW':=hW
 obtain⟨p,q,hA0,hV,rfl,hfz,_⟩:=hW
 have hA:DataW.TrodAll enc Tryz.prog W 0 (fun _=>true) true Tryz.f5.params.toList args.toList ds p:=hA0
 have hpar:Tryz.f5.params= #[22,25,50]:=by kernel_rfl
 rw[hpar]at hA hval
 obtain⟨v0,r0,d0,ds0,p0,q0,ea,rfl,rfl,h0,hA⟩:=trodAll_cons hA
 obtain⟨v1,r1,d1,ds1,p1,q1,rfl,rfl,rfl,h1,hA⟩:=trodAll_cons hA
 obtain⟨v2,r2,d2,ds2,p2,q2,rfl,rfl,rfl,h2,hA⟩:=trodAll_cons hA
 obtain⟨rfl,rfl,rfl⟩:=trodAll_nil hA
 obtain rfl:args= #[v0,v1,v2]:=by
   obtain⟨l⟩:=args
   simp only at ea
   rw[ea]
 obtain⟨rfl,rfl⟩:=trodVars_none hV
 obtain⟨qk,lk,ck,rfl⟩:=okWide_slice Tryz.underlying50 (hval 2 50 v2 rfl rfl)
 obtain⟨f2,hf2⟩:=h2
 obtain⟨xs,hxk,hqk⟩:=open_keys2 hf2
 obtain rfl:lk=xs.length:=by
   obtain⟨_,_,e⟩:=hxk.form
   injection e
 obtain⟨s,sq,sc,rfl,hx,hop,hl,hsz⟩:=open_snap (hval 1 25 v1 rfl rfl) h1
 obtain⟨f0,hf0⟩:=h0
 obtain⟨f1,hf1⟩:=h1
 obtain⟨q0,l0,c0,rfl⟩:=okWide_slice Tryz.underlying22 (hval 0 22 v0 rfl rfl)
 obtain⟨l,hp,hpl,hpz⟩:=open_pieces hf0
 obtain⟨hL1,hL2⟩:=tells_splitX scanDeletes_plain scanDeletes_handle hL
 obtain⟨a,hE⟩:=env_errsX hsh hL1 hL2
 refine(scanDeletes_any (storeK2 W a hE) (filesK W a hE) (scanK W a hE) (scanN W a hE) _ l s _ qk ck xs W (Below.refl _ _) hp hpl hpz hx hop hl hsz hxk hqk).mono fun e W' ⟨he,hb⟩=>?_
 subst he
 have e1:Rows.scanDeletesSpec.fn H ([d0,d1,d2]++ [])= { results:= [.lit (.bool true)],args:= [d0,d1,d2] } :=by simp[Rows.scanDeletesSpec]
 refine⟨_,rfl,_,_,_, [],p0++(p1++(p2++ [])), [],hW',?_,?_,?_,hb.frame _,fun h=>by cases h⟩
 · rw[e1];exact trodAll_mk1 (shut_bool Tryz.underlying4 true)
 · rw[e1]
   exact trodAll_cons_mk (Below.trod Tryz.laidOut (by kernel_rfl) (of_decide_eq_true (by kernel_rfl)) ⟨f0,hf0⟩ hb (DataW.trod_lt _ _ _ _ hf0)) (trodAll_cons_mk (Below.trod Tryz.laidOut (by kernel_rfl) (of_decide_eq_true (by kernel_rfl)) ⟨f1,hf1⟩ hb (DataW.trod_lt _ _ _ _ hf1)) (trodAll_cons_mk (Below.trod Tryz.laidOut (by kernel_rfl) (of_decide_eq_true (by kernel_rfl)) ⟨f2,hf2⟩ hb (DataW.trod_lt _ _ _ _ hf2)) (trodAll_mk0)))
 · rw[e1];rfl
theorem scanDeletes_row:Rows.ScanDeletesSaid :=
 OpenClaim.holds_of_wide 5 Tryz.f5 rfl rfl rfl rfl rfl rfl rfl ⟨rfl,rfl,rfl,rfl,rfl⟩ rfl rfl rfl rfl rfl (by kernel_rfl) Tryz.func5 scanDeletes_facts
   (of_decide_eq_true (by kernel_rfl)) (by unfold Func.isWrapper;rw[if_neg (of_decide_eq_false (by kernel_rfl))];exact⟨rfl,rfl⟩)
   (fun os started H enc _=>scanDeletes_lifted os started H enc)
theorem scanDeletes_holds:Rows.ScanDeletesCardSaid :=
 Claim7.holds_tied_plain_at .later [] Rows.scanDeletesCard.laidKinds true Rows.scanDeletesCard.stood.harness true
   scanDeletes_row (fun _ h=>by cases h) (by kernel_rfl) (fun _ h=>by cases h) scanDeletes_row_tie rfl ⟨rfl,rfl⟩ (by kernel_rfl) rfl
   (fun f fn hf hfn=>by
     obtain rfl : f = 5 := Option.some.inj ((show Tryz.prog.funcNamed "deedbox/deedboxlaw3.ScanDeletes" = some 5 by kernel_rfl).symm.trans hf) |>.symm
     obtain rfl:fn=Tryz.f5:=(Option.some.inj (Tryz.func5.symm.trans hfn)).symm
     exact⟨by kernel_rfl,fun j t ht=>by
       have hp:Tryz.f5.params= #[22,25,50]:=by kernel_rfl
       rw[hp]at ht
       have hm:t∈ [22,25,50]:=by simpa using Array.mem_of_getElem? ht
       simp only[List.mem_cons,List.not_mem_nil,or_false]at hm
       rcases hm with rfl | rfl | rfl
       · exact(show Tryz.prog.wantsStandIn 22=false by kernel_rfl)
       · exact(show Tryz.prog.wantsStandIn 25=false by kernel_rfl)
       · exact(show Tryz.prog.wantsStandIn 50=false by kernel_rfl)⟩)
   (by kernel_rfl)
#print axioms scanDeletes_holds
end Go.Proofs.YtdhkdjlgmbejnaaGreatDoor
