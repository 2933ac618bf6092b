/- StoreDecodes: any bytes as a store, if they are just one's: for all bytes. -/
import Derived.Test.YtjaebndajhppgaaGreatDoorMfHd1
import Derived.Test.YtjaebndajhppgaaGreatDoorMfGSo3
import Derived.Test.YtjaebndajhppgaaGreatDoorMfSoAlike
import Derived.Test.YtjaebndajhppgaaGreatDoorMfSoLaid
import Derived.Deep.RegionHeld3
import Derived.Deep.RegionLaw
set_option linter.unusedVariables false
set_option linter.unusedSimpArgs false
set_option maxRecDepth 100000
set_option maxHeartbeats 8000000
namespace Go.Proofs.YtjaebndajhppgaaGreatDoor
open Go.Proofs.Tryz
open Go.ChangeShapes Go.WideShapes Go.ChangeAt Go.RowKit
theorem aic (L:List TR) (hl:∀ t∈L,Tm.aZ t=true) (hn:L.length≤100) (p:Nat) (w:World) (h:gW w p L) :
  Calls prog 19 #[.pointer (some ⟨p,0,none⟩)] w fun e w'=>∃ a c,e=.returned (.slice a (So.file L).length c)∧Hid (∀ W,Below w'.heap.size w' W→(convert 32 9 (.slice a (So.file L).length c)).run prog W=.ok (.string (strOf (So.file L))) W)∧Below w.heap.size w w':=by refine (E5 L hl hn p w h).mono ?_;rintro e w' ⟨v,rfl,ho,hb⟩;obtain ⟨a,c,rfl,h⟩:=Fg ho;exact ⟨a,c,rfl,h,hb⟩
theorem aie (l:List Nat) (n:Nat) (hn:n=l.length):(List.range n).map (fun i=>aM (l[i]?.getD 0))=l.map aM:=by subst hn;refine List.ext_getElem aI fun i h1 h2=>?_;simp at h1;simp [h1]
theorem aif (b:List Nat) (w:World) (v:Value) (hv:bN w v b) (hb:∀ i,b.getD i 0<256) (hV:dF w) (hE:cu w) :
  Calls prog 4 #[v] w fun e w'=>e=.returned (.bool true)∧Below w.heap.size w w':=by
 have HV:=aj hV;have HE:=aj hE;have HA:=aj hv;have HB:=aj hb;obtain ⟨a,cap,rfl,hc1,hc2,hcn,hrow⟩:=hv;obtain ⟨n,hn⟩:=aB b.length;rw [←hn] at HA hc1 hrow ⊢;have HN:=aj hn;have lG:=aj hrow;clear hV hE hb hrow hn;by_cases h20:20000<n;{have hz:(20000:Int)<(n:Int):=ak;go_enter func4,ntmps4;go_wp2;go_ret;exact ⟨rfl,Below.refl _ _⟩};have hz:¬ (20000:Int)<(n:Int):=ak;have KN:=aj (fun W hB=>Sv W (HV.out.keep (show Below w.heap.size w W from hB)) (HE.out.keep hB));obtain ⟨i0,hi,hz0,hz1,hz2⟩:=info_parts Tryz.infobx5;go_enter func4,ntmps4;go_wp2_with (at_builtin;refine kP rfl (.tmp 11) (.tmp 12) 32 rfl w.heap.size 5 i0 _ 1 underlying32 hi hz0 hz1 hz2 rfl (.slice (some ⟨w.heap.size,0,none⟩) 0 0) 0 [] rfl ?own a n cap (fun i=>aM (b.getD i 0)) rfl ?nil ?row ?one ?b1 ?b2 ?base ?_)
 case own=>exact World.ownsRow_made w #[] 0 aF (by unfold maxLen;omega) rfl
 case nil=>exact fun h=>⟨by have:=hcn h;omega,hcn h⟩
 case row=>exact lG.out.keep ((Below.refl _ _).alloc aF _)
 case one=>intro j _;rfl
 case b1=>unfold maxLen;omega
 case b2=>omega
 intro v1 w1 hown hgr;rw [aie b n HN.out] at hown;have hb1:Below w.heap.size w w1:=((Below.refl w.heap.size w).alloc aF _).grown hgr aI (fun k hk=>by simp only [Value.ownBlock,Option.some.injEq] at hk;omega);have hown':w1.ownsRow w.heap.size 5 1 v1 n (b.map aM):=by simpa using hown
 have HB1:=aj hb1;have hv1:bN w1 v1 b:=tC hown' HN.out;obtain ⟨a1,c1,e1,_,_,_,_⟩:=hv1;rw [←HN.out] at e1;subst e1;have bA:=aj (tC hown' HN.out);clear hown hgr hb1 hown';by_cases hx:∃ L:List TR,(∀ t∈L,Tm.aZ t=true)∧Tm.dR L∧L.length≤100∧So.file L=b
 · obtain ⟨L,hl,hs,kH,rfl⟩:=hx;have DP:=aj (WB L hl hs kH a1 n c1 w1 HN.out bA.out (HV.out.keep HB1.out) (HE.out.keep HB1.out));have RP:=aj (show ∀ W,Below w.heap.size w W→Calls prog 18 #[.slice a n cap] W fun e w'=>∃ q,e=.returned (.tuple #[.pointer (some ⟨q,0,none⟩),.int .i64 0])∧sV w' q L∧Below W.heap.size W w' from fun W hW=>by
    refine (FI (So.file L) a n cap W HN.out ak (HA.out.keep hW) HB.out (HV.out.keep hW)).mono ?_;rintro e w' ⟨⟨_,h⟩ | ⟨q,L',rfl,hr,hd⟩,hb⟩;{exact absurd (WY hl hs kH) (h L)}
    · obtain ⟨g1,g2,g3,g4⟩:=FH hd;obtain rfl:=So.Ka g1 hl g3 kH g4;exact ⟨q,rfl,hr,hb⟩)
   have HL:=aj hl;have tT:=aj kH;clear hl hs kH hz hz0 hz1 hz2 hi;(go_wp2_with fail);refine DP.out.mono ?_;rintro e w2 ⟨p,rfl,hS,hb⟩;have HB2:=aj (aJ HB1.out hb);have HS2:=aj hS;clear hb hS DP;(go_wp2_with fail);refine (RP.out _ HB2.out).mono ?_;rintro e w3 ⟨q,rfl,hR,hb⟩;have HB3:=aj (aJ HB2.out hb);have uV:=aj (HS2.out.keep hb);have HR3:=aj hR;clear hb hR RP;have AL:=aj (fun W (hW:Below w3.heap.size w3 W)=>Vl L HL.out tT.out p q W (uV.out.keep hW) (Fe HR3.out hW));have EN:=aj (fun W (hW:Below w3.heap.size w3 W)=>aic L HL.out tT.out p W (uV.out.keep hW));have KB:=aj (fun W (hW:Below w3.heap.size w3 W)=>mP underlying32 underlying5 underlying9 W _ (So.file L) (HA.out.keep (aJ HB3.out hW)));have L9:=aj (fun W (hW:Below w3.heap.size w3 W)=>KN.out W (aJ HB3.out hW));obtain ⟨F,hF⟩:=aB (strOf (So.file L));obtain ⟨N,Xa⟩:=aB ((So.file L).length);rw [←hF,←Xa] at EN;rw [←hF] at KB;clear hF Xa;have hd3:Below w3.heap.size w3 w3.drew:=bn (Below.refl _ _) 1;have q0:=KB.out _ hd3;(go_upto_region 7 with fail);go_region_law (first
    | (go_simp;go_at_call 15;with_reducible refine (AL.out _ hd3).mono ?_;rintro e w4 ⟨rfl,hb4⟩;have hd4:=aJ hd3 hb4;have q1:=KB.out _ hd4)
    | (go_simp;go_at_call 19;with_reducible refine (EN.out _ hd4).mono ?_;rintro e w5 ⟨a5,c5,rfl,k5,hb5⟩;have hd5:=aJ hd4 hb5;have q2:=k5.out w5 (Below.refl _ _);have q3:=KB.out _ hd5)
    | (go_simp;go_at_call 16;with_reducible refine (L9.out _ hd5).mono ?_;rintro e w6 ⟨rfl,hb6⟩;have hd6:=aJ hd5 hb6)
    | fail)
   all_goals (go_wp2;go_ret;exact ⟨rfl,aJ HB3.out hd6⟩)
 · have HX:=aj hx;have DP:=aj (show Calls prog 17 #[.slice a1 n c1] w1 fun e w'=>e=.returned (.tuple #[.pointer none,.int .i64 2])∧Below w1.heap.size w1 w' from by
    refine (WJ b a1 n c1 w1 HN.out bA.out HB.out (HV.out.keep HB1.out) (HE.out.keep HB1.out)).mono ?_;rintro e w' ⟨rfl | ⟨p,L,_,_,h⟩,hb⟩;{exact ⟨rfl,hb⟩}
    · exact absurd ⟨L,h⟩ HX.out)
   have RP:=aj (show ∀ W,Below w.heap.size w W→Calls prog 18 #[.slice a n cap] W fun e w'=>e=.returned (.tuple #[.pointer none,.int .i64 2])∧Below W.heap.size W w' from fun W hW=>by
    refine (FI b a n cap W HN.out ak (HA.out.keep hW) HB.out (HV.out.keep hW)).mono ?_;rintro e w' ⟨⟨rfl,_⟩ | ⟨q,L,_,_,h⟩,hb⟩;{exact ⟨rfl,hb⟩}
    · exact absurd ⟨L,FH h⟩ HX.out)
   clear hx hz hz0 hz1 hz2 hi;(go_wp2_with fail);refine DP.out.mono ?_;rintro e w2 ⟨rfl,hb⟩;have HB2:=aj (aJ HB1.out hb);clear hb DP;(go_wp2_with fail);refine (RP.out _ HB2.out).mono ?_;rintro e w3 ⟨rfl,hb⟩;have HB3:=aj (aJ HB2.out hb);clear hb RP;have L9:=aj (fun W (hW:Below w3.heap.size w3 W)=>KN.out W (aJ HB3.out hW));have KN3:=aj (fun p:Later w3.heap.size w3=>L9.out p.it p.low);(go_upto_region 7 with fail);refine fV w3.heap.size aG aG ?_;(repeat (go_big_quiet_step ((go_at_call 16;with_reducible exact Later.call aF (KN3.out _)))));refine wpQuiet_nil ?_;rintro _ ⟨p,rfl⟩;go_wp2;go_ret;exact ⟨rfl,aJ HB3.out p.low⟩
theorem aii (H:Type) (enc:TypeId×Value→H) (W:World) (base:Nat) (args:Array Value) (ds gs:List (DataW H)) (before:List MemPlace)
  (hval:∀ (j:Nat) t v,Tryz.f4.params[j]?=some t→args[j]?=some v→Value.okWide prog W .any base t v)
  (hW:DataW.Whole enc prog Tryz.f4.params.toList Rows.storeDecodesSpec.vars false W args.toList ds gs before)
  (hz:(DataW.weightsEach prog (Tryz.f4.params.toList++Rows.storeDecodesSpec.plain.varTypes prog) (ds++gs)).all (·≤reachBytes)=true)
  (hL:laidMetH prog Rows.storeDecodesRow.laid W) (hsh:W.ShapedOpen prog) :
  Calls prog 4 args W fun e W'=>e=.returned (.bool true)∧Below W.heap.size W W':=by
 obtain ⟨p,q,hA,_,_,_,_⟩:=hW;rw [Tryz.params4] at hA hval;rw [Tryz.params4] at hz;obtain ⟨v0,vs0,d0,ds0,p0,q0,hargs,rfl,rfl,h0,r0⟩:=trodAll_cons hA;obtain ⟨rfl,rfl,rfl⟩:=trodAll_nil r0;obtain rfl:args=#[v0]:=by cases args;simp_all
 obtain ⟨l0,L0,b0,z0⟩:=Xw underlying32 underlying5 (show prog.cellsOf 5=1∧prog.bytesOf 5=1 by exact ⟨aG,aG⟩) (hval 0 32 v0 rfl rfl) h0 (FM hz (j:=0) (t:=32) (d:=d0) rfl rfl);obtain ⟨hV,hE⟩:=WZ hL hsh;exact aif l0 W v0 L0 b0 hV hE
theorem aij (os:Os) (started:os.Started) (H:Type) (enc:TypeId×Value→H) (F:Stop.Interp) :
  ReturnsInHanded {} Tryz.checked os 4 .any ((OpenSpec.ofChange Rows.storeDecodesSpec).preRow enc prog Tryz.f4 Rows.storeDecodesRow.domain false Rows.storeDecodesRow.laid) (((OpenSpec.ofChange Rows.storeDecodesSpec).at F).post enc prog Tryz.f4 false true false false):=by
 obtain ⟨places,hx⟩:∃ places,DataW.whole enc prog ((BX os).forCall (fun _ _=>0) ⟨#[],#[.slice none 0 0],[]⟩).memory Tryz.f4.params.toList Rows.storeDecodesSpec.vars false (#[.slice none 0 0]:Array Value).toList 8=some ([.nil],[],places):=⟨[],aG⟩;refine returnsInHanded_of_row (C:=Tryz.checked) (s:=OpenSpec.ofChange Rows.storeDecodesSpec) own started aG func4
  (W9 (enc:=enc) (C:=Tryz.checked) false (BX os) #[.slice none 0 0] (World.laidAll_os _ _ _) (World.shaped_of_ZipB aG aG) aG
    (OpenSpec.preRow_of_cond 8 hx aG (fun k hk=>by cases hk) aG (W_ os _))) ?_
 intro W base args ds gs before hval hW _ _ hz hL hsh _;refine (aii H enc W base args ds gs before hval hW hz hL hsh).mono fun e W' ⟨he,hb⟩=>⟨_,he,?_⟩;exact Mh (fn:=Tryz.f4) (s:=Rows.storeDecodesSpec) (tb:=4) rfl (fun ds hd=>by match ds,hd with | [d0],_=>rfl) rfl underlying4 aG hW hb
theorem L_ {a b:Bool} (h:a=true) (k:b=true):(a && b)=true:=by rw [h,k];rfl
theorem aik:joinedFacts Tryz.pinned.checked.prog 4 Tryz.f4 (OpenSpec.ofChange Rows.storeDecodesSpec).bare Rows.storeDecodesRow=true:=by
 unfold joinedFacts;repeat' (with_reducible refine L_ ?_ ?_)
 all_goals as_aux_lemma=>kernel_rfl
theorem ail:Rows.StoreDecodesSaid:=
 OpenClaim.holds_of_cond 4 Tryz.f4 rfl rfl rfl rfl rfl rfl rfl ⟨rfl,rfl,rfl,rfl,rfl⟩ rfl rfl rfl rfl rfl aG func4 aik
  (of_decide_eq_true aG) (by unfold Func.isWrapper;first | (rw [if_pos (by decide +kernel)];kernel_rfl) | (rw [if_neg (by decide +kernel)];exact ⟨rfl,rfl⟩))
  (fun os started H enc _ F=>by rw [OpenClaim.pre_eq_preRow];exact aij os started H enc F)
theorem ain (f:FuncId) (fn:Func) (hf:Tryz.pinned.checked.prog.funcNamed Rows.storeDecodesRow.func=some f) (hfn:Tryz.pinned.checked.prog.funcs[f]?=some fn) :
  true=Tryz.pinned.checked.prog.looks []∧∀ (j:Nat) t,fn.params[j]?=some t→Tryz.pinned.checked.prog.wantsStandIn t=false:=by obtain rfl:f=4:=Option.some.inj ((show prog.funcNamed Rows.storeDecodesRow.func=some 4 by kernel_rfl).symm.trans hf) |>.symm;obtain rfl:fn=Tryz.f4:=(Option.some.inj (func4.symm.trans hfn)).symm;refine ⟨aG,fun j t ht=>?_⟩;have h:=Array.mem_of_getElem? ht;have hall:Tryz.f4.params.all (fun t=>!prog.wantsStandIn t)=true:=aG;have:=Array.all_eq_true_iff_forall_mem.1 hall t h;show prog.wantsStandIn t=false;simpa using this
theorem storeDecodes_card:Rows.StoreDecodesCardSaid:=
 Claim7.holds_tied_plain_at .later [] _ _ _ _ ail (fun _ h=>by cases h) aG (fun _ h=>by cases h) storeDecodes_row_tie rfl ⟨rfl,rfl⟩ aG rfl ain aG
end Go.Proofs.YtjaebndajhppgaaGreatDoor
