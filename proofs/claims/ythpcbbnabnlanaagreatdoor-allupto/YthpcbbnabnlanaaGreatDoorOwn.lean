/-
  For every script whose values and letters are at most 1,048,576 All answers true, and the script reads afterwards as before. The listed library tables stand as the program's text lays them.
-/
import Derived.Test.YthpcbbnabnlanaaGreatDoorM24
import Derived.Test.YthpcbbnabnlanaaGreatDoorM28
import Derived.Test.YthpcbbnabnlanaaGreatDoorM43
namespace Go.Proofs.YthpcbbnabnlanaaGreatDoor
set_option maxHeartbeats 1000000
set_option maxRecDepth 1000000
open Go.Proofs.Tryz
set_option linter.all false
section
open Go.ChangeShapes Go.WideShapes Go.ChangeAt Go.RowKit
theorem anI (w:A)(v:aF)(ops:List TR)(hv:AR w v ops)(ht:Sj w)(hd:VP w)(hn:ops.length<=1050000)(hb:∀o∈ops,(-9223372036854775808<=o.on/\o.on<=9223372036854775807)/\(-9223372036854775808<=o.bu/\o.bu<=9223372036854775807)/\∃Z7,Qt w o.va o.vn Z7/\o.vn<=1100000):aq 5 #[v] w (au w (.bool true)):=by
 have K:=ZQ.mk (anH v ops hv ht hd hn hb);clear hv ht hd;go_enter func5,ntmps5;go_wp2_with (go_at_call 15;refine K.get.mono ?_;rintro e w1 ⟨rfl,z⟩);go_ret;exact⟨rfl,z⟩
theorem anJ:∀t∈f5.params.toList,prog.readableRec t=true/\t<prog.types.size:=by
 rw[params5];intro t ht;simp only[gH,eQ,iM]at ht;subst ht;exact⟨pH,ew pH⟩
theorem anK (H:Type)(enc:TypeId×aF->H)(W:A)(base:Nat)(args:Array aF)(ds gs:List (DataW H))(before:List MemPlace)(ar:∀(j:Nat) t v,f5.params[j]?=some t->args[j]?=some v->Value.okWide prog W .any base t v)(hW:DataW.Whole enc prog f5.params.toList Rows.allSpec.vars false W args.toList ds gs before)(hL:laidMet prog Dy W)(I:Rows.uptoSmall H (ds++gs)=true):aq 5 args W λe W'=>∃v,e=.returned v/\Rows.allSpec.post enc prog f5 false true false false W args v W':=by
 have Y:=hW;obtain⟨p,q,bc,hV,rfl,aj,aK⟩:=hW;have hA:DataW.TrodAll enc prog W 0 (λ_=>true) true f5.params.toList args.toList ds p:=bc
 rw[params5]at hA ar;obtain⟨v0,ak,d0,av,p0,q0,aw,rfl,rfl,h0,r0⟩:=trodAll_cons hA;obtain⟨rfl,rfl,rfl⟩:=trodAll_nil r0;obtain rfl:args=#[v0]:=by cases args;simp_all
 obtain⟨rfl,rfl⟩:=trodVars_none hV;obtain⟨ops,hS,hlen,O⟩:=aj0 (ar 0 22 v0 rfl rfl) h0;have ah:Rows.uptoBulkAll [d0]<=1048576:=ew (by simpa[Rows.uptoSmall]using I);simp only[Rows.uptoBulkAll]at ah;refine(anI W v0 ops hS (ajf hL) (ajq hL) J (λo ho=>by obtain⟨d',F,h2⟩:=O o ho;obtain⟨Z7,hv⟩:=F.Z7;exact⟨F.on,F.bu,Z7,⟨hv.len,hv.at_⟩,by have:=F.bulk;omega⟩)).mono ?_
 rintro e W' ⟨rfl,z⟩;exact⟨_,rfl,ajk rfl pH anJ Y rfl z⟩
theorem anL (os:Os){H:Type}(enc:TypeId×aF->H):∃places,DataW.whole enc prog ((AZ prog os).forCall (λ_ _=>0) ⟨#[],#[af],[]⟩).memory f5.params.toList Rows.allSpec.vars false #[af].toList 8=some ([.nil],[],places):=
 ⟨[],pH⟩
theorem anM (os:Os)(started:os.Started)(H:Type)(enc:TypeId×aF->H)(anW:Stop.Interp):ReturnsInHanded {} Tryz.checked os 5 .any ((Rows.OpenSpec.upto Rows.allSpec).preRow enc prog f5 Rows.allUptoRow.domain false Rows.allUptoRow.laid) (((Rows.OpenSpec.upto Rows.allSpec).at anW).post enc prog f5 false true false false):=by
 obtain⟨places,hx⟩:=anL os enc;refine returnsInHanded_of_row (C:=Tryz.checked) (s:=Rows.OpenSpec.upto Rows.allSpec) ai9 started pH func5
  (witness_row_atRef (enc:=enc) (C:=Tryz.checked) false (AZ prog os) #[af] rfl pH pH pH
   (OpenSpec.preRow_of_cond 8 hx pH (λk I=>by cases I;kernel_rfl) pH (ajg os _))) ?_
 intro W base args ds gs before ar hW _ ai _ hL _ _;exact anK H enc W base args ds gs before ar hW hL (ai _ rfl)
theorem anN:Rows.AllUptoSaid:=
 OpenClaim.holds_of_cond 5 f5 rfl rfl rfl rfl rfl rfl rfl ⟨rfl,rfl,rfl,rfl,rfl⟩ rfl rfl rfl rfl rfl pH func5 pH
  (ew pH) (by unfold Func.isWrapper;first|(rw[iR (by decide+kernel)];kernel_rfl)|(rw[iQ (by decide+kernel)];exact⟨rfl,rfl⟩))
  (λos started H enc _ anW=>by rw[OpenClaim.pre_eq_preRow];exact anM os started H enc anW)
theorem anO (f:FuncId)(fn:Func)(hf:Tryz.pinned.checked.prog.funcNamed "assay/assaylaw.All"=some f)(aa:Tryz.pinned.checked.prog.funcs[f]?=some fn):true=Tryz.pinned.checked.prog.looks []/\∀(j:Nat) t,fn.params[j]?=some t->Tryz.pinned.checked.prog.wantsStandIn t=false:=by
 obtain rfl:f=5:=fO ((show prog.funcNamed "assay/assaylaw.All"=some 5 by kernel_rfl).symm.trans hf) |>.symm;obtain rfl:fn=f5:=(fO (func5.symm.trans aa)).symm;refine⟨pH,λj t ht=> ?_⟩
 rw[params5]at ht;obtain rfl:t=22:=by simpa using Array.mem_of_getElem? ht
 exact(show prog.wantsStandIn 22=false by kernel_rfl)
theorem all_upto_holds:Rows.AllUptoCardSaid:=
 Claim7.holds_tied_plain_at .later [] _ _ _ _ anN (λ_ h=>rN) pH (λ_ h=>rN) allUpto_row_tie rfl ⟨rfl,rfl⟩ pH rfl anO pH
end
end Go.Proofs.YthpcbbnabnlanaaGreatDoor
