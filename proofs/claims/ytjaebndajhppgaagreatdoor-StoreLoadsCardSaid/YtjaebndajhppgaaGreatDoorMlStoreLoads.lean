/- StoreLoads: any text as a store, or its line and error; all that it tells: for every text. -/
import Derived.Test.YtjaebndajhppgaaGreatDoorMlHd1
import Derived.Test.YtjaebndajhppgaaGreatDoorMlGSo3
import Derived.Test.YtjaebndajhppgaaGreatDoorMlSoAlike
import Derived.Test.YtjaebndajhppgaaGreatDoorMlSoLaid
import Derived.Deep.RegionHeld3
import Derived.Deep.RegionLaw
set_option linter.unusedVariables false
set_option linter.unusedSimpArgs false
set_option maxRecDepth 100000
set_option maxHeartbeats 4000000
namespace Go.Proofs.YtjaebndajhppgaaGreatDoor
open Go.Proofs.Tryz
open Go.ChangeShapes Go.WideShapes Go.ChangeAt Go.RowKit
theorem adS (s:List UInt8) (w:World) (hl:20000<s.length) (hm:s.length≤1000000000):Calls prog 42 #[str s] w fun e w'=>e=.returned (.tuple #[.slice none 0 0,.int .i64 0,.int .i64 4])∧w'=w:=by
 have hz:(20000:Int)<(s.length:Int):=aj;clear hl;go_enter func42,ntmps42;go_wp2;go_step3
 go_wp2;rw [Exit.noGoto_ret];go_ret3
 exact ⟨rfl,rfl⟩
theorem adT (s:List UInt8) (w:World) (hl:20000<s.length) (hm:s.length≤1000000000):Calls prog 13 #[str s] w fun e w'=>e=.returned (.tuple #[.pointer none,.int .i64 0,.int .i64 4])∧w'=w:=by
 have PA:=hid (adS s w hl hm);clear hl hm;go_enter func13,ntmps13;go_wp2_with (go_at_call 42;refine PA.out.mono ?_;rintro e w1 ⟨rfl,rfl⟩)
 go_ret3
 exact ⟨rfl,rfl⟩
theorem adU (s:List UInt8) (w:World) (hl:20000<s.length) (hm:s.length≤1000000000):Calls prog 14 #[str s] w fun e w'=>e=.returned (.tuple #[.pointer none,.int .i64 0,.int .i64 4])∧Below w.heap.size w w':=by
 have PA:=hid (adJ s w hl aj);clear hl hm;go_enter func14,ntmps14;go_wp2_with (go_at_call 44;refine PA.out.mono ?_;rintro e w1 ⟨rfl,hB⟩;have HB:=hid hB;clear hB)
 go_ret3
 exact ⟨rfl,HB.out⟩
def QK (w:World) (r:Nat×Nat×List TR) (e:Ending) (w':World):Prop:=
 (if r.1=0 then ∃ p,e=.returned (.tuple #[.pointer (some ⟨p,0,none⟩),.int .i64 (r.2.1:Nat),.int .i64 0])∧tJ w' p (Tm.eD r.2.2)
  else e=.returned (.tuple #[.pointer none,.int .i64 (r.2.1:Nat),.int .i64 (r.1:Nat)]))∧Below w.heap.size w w'
theorem adV (s:List UInt8) (w:World) (hV:Vars w) (hl:s.length≤20000) (R:Nat×Nat×List TR) (nV:Tm.f_ s 0 []=R)
  (ht:(∀ t∈R.2.2,Tm.bG t=true)∧R.2.2.length≤100):Calls prog 14 #[str s] w (QK w R):=by
 have PA:=hid (adK s w hV hl R nV);have BU:=hid (fun W v hv=>abE (Tm.eD R.2.2) (Tm.wK ht.1) (by have:=Tm.DK R.2.2;have:=ht.2;omega) W v hv);obtain ⟨E,N,l⟩:=R;simp only at ht BU;clear hV hl nV ht;by_cases hz:E=0
 · subst hz;go_enter func14,ntmps14;go_wp2_with (first
    | (go_at_call 44;refine PA.out.mono ?_;rintro e w1 ⟨v,rfl,hT0,hB⟩;have hT:=(show bX w1 v ((Tm.eD l).map bA) from hT0);clear hT0;obtain ⟨va,vc,rfl,_,_,_⟩:=hT.open;rw [List.length_map] at hT ⊢;have HT:=hid hT;have HB:=hid hB;clear hT hB)
    | (go_at_call 22;refine (BU.out _ _ HT.out).mono ?_;rintro e w2 ⟨p,rfl,hS,hB2⟩;have HS:=hid hS;have HB2:=hid hB2;clear hS hB2))
   go_ret3
   exact ⟨⟨p,rfl,HS.out⟩,aG HB.out HB2.out⟩
 · have hz2:((E:Int)==0)=false:=beq_eq_false_iff_ne.2 aj;have HZ:=hid hz;clear hz;go_enter func14,ntmps14;(go_wp2_with (go_at_call 44;refine PA.out.mono ?_;rintro e w1 ⟨v,rfl,hT,hB⟩;obtain ⟨va,vc,rfl,_,_,_⟩:=hT.open;have HB:=hid hB;clear hT hB));go_ret3
   exact ⟨by rw [if_neg HZ.out];rfl,HB.out⟩
theorem adW (s:List UInt8) (w:World) (hl:s.length≤9223372036854775807) (hV:Vars w) (hE:dz w) :
  Calls prog 3 #[str s] w fun e w'=>e=.returned (.bool true)∧Below w.heap.size w w':=by have KN:=hid (fun W h h2=>abb W h h2);have tV:=hid hV;have HE:=hid hE;by_cases QL:25000<s.length;{have hz:(25000:Int)<(s.length:Int):=aj;go_enter func3,ntmps3;go_wp2;go_ret;exact ⟨rfl,Below.refl _ _⟩};have hz:¬ (25000:Int)<(s.length:Int):=aj;by_cases h20:20000<s.length;{have LL:=hid (fun W=>adT s W h20 aj);have RL:=hid (fun W=>adU s W h20 aj);clear hV hE h20 QL hl;go_enter func3,ntmps3;(go_wp2_with fail);refine (LL.out _).mono ?_;rintro e w1 ⟨rfl,rfl⟩;(go_wp2_with fail);refine (RL.out _).mono ?_;rintro e w2 ⟨rfl,hb⟩;have HB2:=hid hb;clear hb;(go_wp2_with fail);refine (KN.out _ (tV.out.keep HB2.out) (HE.out.keep HB2.out)).mono ?_;rintro e w3 ⟨rfl,hb⟩;have HB3:=hid (aG HB2.out hb);clear hb;go_wp2;go_ret;exact ⟨rfl,HB3.out⟩};have hg:=QI s.length s 0 [] ay (fun t h=>by cases h) (Nat.zero_le _);obtain ⟨R,hR⟩:=aA (Tm.f_ s 0 []);rw [←hR] at hg;have LP:=hid (fun W hV hE=>FZ s W hV hE aj R hR.symm (fun _=>hg));have RP:=hid (fun W hV=>adV s W hV aj R hR.symm hg);obtain ⟨E,N,l⟩:=R;have HG:=hid (show (∀ t∈Tm.eD l,Tm.bG t=true)∧(Tm.eD l).length≤100 from ⟨Tm.wK hg.1,Nat.le_trans (Tm.DK _) hg.2⟩);clear hV hE hR hg h20 QL;by_cases h0:E=0;{subst h0;have LP:=hid (show ∀ W,Vars W→dz W→Calls prog 13 #[str s] W fun e w'=>(∃ p,e=.returned (.tuple #[.pointer (some ⟨p,0,none⟩),.int .i64 (N:Nat),.int .i64 0])∧iM w' p (Tm.eD l))∧Below W.heap.size W w' from LP.out);have RP:=hid (show ∀ W,Vars W→Calls prog 14 #[str s] W fun e w'=>(∃ p,e=.returned (.tuple #[.pointer (some ⟨p,0,none⟩),.int .i64 (N:Nat),.int .i64 0])∧tJ w' p (Tm.eD l))∧Below W.heap.size W w' from RP.out);go_enter func3,ntmps3;(go_wp2_with fail);refine (LP.out _ tV.out HE.out).mono ?_;rintro e w1 ⟨⟨p,rfl,hS⟩,hb⟩;have HB1:=hid hb;have qV:=hid hS;clear hb hS;(go_wp2_with fail);refine (RP.out _ (tV.out.keep HB1.out)).mono ?_;rintro e w2 ⟨⟨q,rfl,hR⟩,hb⟩;have HB2:=hid (aG HB1.out hb);have HS2:=hid (qV.out.keep hb);have HR2:=hid hR;clear hb hR;(go_wp2_with fail);refine (ada (Tm.eD l) HG.out.1 HG.out.2 p q w2 HS2.out HR2.out).mono ?_;rintro e w3 ⟨rfl,hb⟩;have HB3:=hid (aG HB2.out hb);clear hb;(go_wp2_with fail);refine (KN.out _ (tV.out.keep HB3.out) (HE.out.keep HB3.out)).mono ?_;rintro e w4 ⟨rfl,hb⟩;have aP:=hid (aG HB3.out hb);clear hb;go_wp2;go_ret;exact ⟨rfl,aP.out⟩};{have hz2:((E:Int)==0)=false:=beq_eq_false_iff_ne.2 aj;have hz3:((E:Int) != 0)=true:=(by rw [bne,hz2];rfl);have LP:=hid (show ∀ W,Vars W→dz W→Calls prog 13 #[str s] W fun e w'=>e=.returned (.tuple #[.pointer none,.int .i64 (N:Nat),.int .i64 (E:Nat)])∧Below W.heap.size W w' by have h:=LP.out;unfold N_ at h;simp only [if_neg h0] at h;exact h);have RP:=hid (show ∀ W,Vars W→Calls prog 14 #[str s] W fun e w'=>e=.returned (.tuple #[.pointer none,.int .i64 (N:Nat),.int .i64 (E:Nat)])∧Below W.heap.size W w' by have h:=RP.out;unfold QK at h;simp only [if_neg h0] at h;exact h);clear h0;go_enter func3,ntmps3;(go_wp2_with fail);refine (LP.out _ tV.out HE.out).mono ?_;rintro e w1 ⟨rfl,hb⟩;have HB1:=hid hb;clear hb;(go_wp2_with fail);refine (RP.out _ (tV.out.keep HB1.out)).mono ?_;rintro e w2 ⟨rfl,hb⟩;have HB2:=hid (aG HB1.out hb);clear hb;(go_wp2_with fail);refine (KN.out _ (tV.out.keep HB2.out) (HE.out.keep HB2.out)).mono ?_;rintro e w3 ⟨rfl,hb⟩;have HB3:=hid (aG HB2.out hb);clear hb;go_wp2;go_ret;exact ⟨rfl,HB3.out⟩}
theorem adX (H:Type) (enc:TypeId×Value→H) (W:World) (base:Nat) (args:Array Value) (ds gs:List (DataW H)) (before:List MemPlace)
  (hval:∀ (j:Nat) t v,Tryz.f3.params[j]?=some t→args[j]?=some v→Value.okWide prog W .any base t v)
  (hW:DataW.Whole enc prog Tryz.f3.params.toList Rows.storeLoadsSpec.vars false W args.toList ds gs before)
  (hz:(DataW.weightsEach prog (Tryz.f3.params.toList++Rows.storeLoadsSpec.plain.varTypes prog) (ds++gs)).all (·≤reachBytes)=true)
  (hL:laidMetH prog Rows.storeLoadsRow.laid W) (hsh:W.ShapedOpen prog) :
  Calls prog 3 args W fun e W'=>e=.returned (.bool true)∧Below W.heap.size W W':=by
 obtain ⟨p,q,hA,_,_,_,_⟩:=hW;rw [Tryz.params3] at hA hval;rw [Tryz.params3] at hz;obtain ⟨v0,vs0,d0,ds0,p0,q0,hargs,rfl,rfl,h0,r0⟩:=trodAll_cons hA;obtain ⟨rfl,rfl,rfl⟩:=trodAll_nil r0;obtain rfl:args=#[v0]:=by cases args;simp_all
 obtain ⟨x0,rfl,rfl,rfl,w0⟩:=Go.ChangeMaps.open_string underlying9 (hval 0 9 v0 rfl rfl) h0;obtain ⟨hV,hE⟩:=adP hL hsh;exact adW x0.data.toList W (by rw [show x0.data.toList.length=x0.size from Array.length_toList];unfold maxLen at w0;omega) hV hE
theorem adY (os:Os) (started:os.Started) (H:Type) (enc:TypeId×Value→H) (F:Stop.Interp) :
  ReturnsInHanded {} Tryz.checked os 3 .any ((OpenSpec.ofChange Rows.storeLoadsSpec).preRow enc prog Tryz.f3 Rows.storeLoadsRow.domain false Rows.storeLoadsRow.laid) (((OpenSpec.ofChange Rows.storeLoadsSpec).at F).post enc prog Tryz.f3 false true false false):=by
 obtain ⟨places,hx⟩:∃ places,DataW.whole enc prog ((Ig os).forCall (fun _ _=>0) ⟨#[],#[.string ByteArray.empty],[]⟩).memory Tryz.f3.params.toList Rows.storeLoadsSpec.vars false (#[.string ByteArray.empty]:Array Value).toList 8=some ([.lit (.string [])],[],places):=⟨[],aD⟩;refine returnsInHanded_of_row (C:=Tryz.checked) (s:=OpenSpec.ofChange Rows.storeLoadsSpec) own started aD func3
  (adQ (enc:=enc) (C:=Tryz.checked) false (Ig os) #[.string ByteArray.empty] (World.laidAll_os _ _ _) (World.shaped_of_ZipB aD aD) aD
    (OpenSpec.preRow_of_cond 8 hx aD (fun k hk=>by cases hk) aD (adR os _))) ?_
 intro W base args ds gs before hval hW _ _ hz hL hsh _;refine (adX H enc W base args ds gs before hval hW hz hL hsh).mono fun e W' ⟨he,hb⟩=>⟨_,he,?_⟩;exact QX (fn:=Tryz.f3) (s:=Rows.storeLoadsSpec) (tb:=4) rfl (fun ds hd=>by match ds,hd with | [d0],_=>rfl) rfl underlying4 aD hW hb
theorem adZ {a b:Bool} (h:a=true) (k:b=true):(a && b)=true:=by rw [h,k];rfl
theorem ad1:joinedFacts Tryz.pinned.checked.prog 3 Tryz.f3 (OpenSpec.ofChange Rows.storeLoadsSpec).bare Rows.storeLoadsRow=true:=by
 unfold joinedFacts;repeat' (with_reducible refine adZ ?_ ?_)
 all_goals as_aux_lemma=>kernel_rfl
theorem ad2:Rows.StoreLoadsSaid:=
 OpenClaim.holds_of_cond 3 Tryz.f3 rfl rfl rfl rfl rfl rfl rfl ⟨rfl,rfl,rfl,rfl,rfl⟩ rfl rfl rfl rfl rfl aD func3 ad1
  (of_decide_eq_true aD) (by unfold Func.isWrapper;first | (rw [if_pos (by decide +kernel)];kernel_rfl) | (rw [if_neg (by decide +kernel)];exact ⟨rfl,rfl⟩))
  (fun os started H enc _ F=>by rw [OpenClaim.pre_eq_preRow];exact adY os started H enc F)
theorem ad3 (f:FuncId) (fn:Func) (hf:Tryz.pinned.checked.prog.funcNamed Rows.storeLoadsRow.func=some f) (hfn:Tryz.pinned.checked.prog.funcs[f]?=some fn) :
  true=Tryz.pinned.checked.prog.looks []∧∀ (j:Nat) t,fn.params[j]?=some t→Tryz.pinned.checked.prog.wantsStandIn t=false:=by obtain rfl:f=3:=Option.some.inj ((show prog.funcNamed Rows.storeLoadsRow.func=some 3 by kernel_rfl).symm.trans hf) |>.symm;obtain rfl:fn=Tryz.f3:=(Option.some.inj (func3.symm.trans hfn)).symm;refine ⟨aD,fun j t ht=>?_⟩;have h:=Array.mem_of_getElem? ht;have hall:Tryz.f3.params.all (fun t=>!prog.wantsStandIn t)=true:=aD;have:=Array.all_eq_true_iff_forall_mem.1 hall t h;show prog.wantsStandIn t=false;simpa using this
theorem storeLoads_card:Rows.StoreLoadsCardSaid:=
 Claim7.holds_tied_plain_at .later [] _ _ _ _ ad2 (fun _ h=>by cases h) aD (fun _ h=>by cases h) storeLoads_row_tie rfl ⟨rfl,rfl⟩ aD rfl ad3 aD
end Go.Proofs.YtjaebndajhppgaaGreatDoor
