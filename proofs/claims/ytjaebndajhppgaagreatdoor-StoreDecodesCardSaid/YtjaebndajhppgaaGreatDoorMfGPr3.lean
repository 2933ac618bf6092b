/-GPr3-/
import Derived.Test.YtjaebndajhppgaaGreatDoorMfHd1
import Derived.Test.YtjaebndajhppgaaGreatDoorMfPrEsc2
import Derived.Test.YtjaebndajhppgaaGreatDoorMfGTm2
import Derived.WalkMore
import Derived.Test.YtjaebndajhppgaaGreatDoorMfGLn1
set_option linter.unusedVariables false
set_option linter.unusedSimpArgs false
set_option maxRecDepth 100000
set_option maxHeartbeats 4000000
namespace Go.Proofs.YtjaebndajhppgaaGreatDoor
open Go.Proofs.Tryz
open Go.ChangeShapes Go.WideShapes Go.ChangeAt Go.RowKit
theorem Pr.lt {w:World} {q:Nat} {l:List UInt8} {i:Nat} (h:Pr w q l i):q<w.heap.size:=aC.lt h
theorem Jc {q B n:Nat} {w w':World} {v:Value} {t:TypeId} {xs:List Value} (h:w.ownsRow B t 1 v n xs) (hb:aH q w w') (hq:q<B):w'.ownsRow B t 1 v n xs:=by
 refine h.kept hb ?_;cases hv:v.ownBlock with
 | none=>exact .inl rfl
 | some k=>refine .inr ?_;have:=(h.lt k hv).1;simp;omega
theorem RO {q:Nat} {w w1 w2:World} {o:Option Nat} (h:aH q w w1) (hg:w1.grownBy w2 o) (ho:∀ k,o=some k→w.heap.size≤k):aH q w w2:=by refine ⟨hg.os.trans h.os,hg.tape.trans h.tape,hg.output.trans h.output,Nat.le_trans h.size hg.size,fun i hi hn=>?_⟩;rw [hg.block i (Nat.lt_of_lt_of_le hi h.size) ?_];{exact h.block i hi hn};{intro e;have:=ho i e.symm;omega}
theorem Pr.grown {q i:Nat} {l:List UInt8} {w w':World} {o:Option Nat} (h:Pr w q l i) (hg:w.grownBy w' o) (ho:∀ k,o=some k→k≠q):Pr w' q l i:=by have hk:=hg.block q (aC.lt h) (fun e=>ho q e.symm rfl);unfold Pr aC at *;rw [hk];exact h
theorem RQ {w w':World} {o:Obj} {b:Option Nat} (h:(w.alloc o).grownBy w' b):w.grownBy w' b:=
 ⟨h.os,h.tape,h.output,by have:=h.size;simp at this;omega,fun k hk hn=>by rw [h.block k (by simp;omega) hn];exact Below.heap_alloc _ _ _ hk⟩
theorem aea {lit:Bool} {s:List UInt8} {x n:Nat} (h:iG lit s=some (x,n)):Tm.qc x∧x≤1114111:=by
 have hx:∀ k t,Tm.bZ k t=some x→Tm.qc x∧x≤1114111:=by intro k t hk;unfold Tm.bZ at hk;split at hk;{cases hk};{rename_i y _;split at hk;{cases hk};{simp only [Option.some.injEq] at hk;unfold Tm.qc;omega}}
 cases s with
 | nil=>cases h
 | cons c t=>
  unfold iG at h;simp only at h;split at h
  · cases hr:Tm.bZ 4 t with
    | none=>rw [hr] at h;cases h
    | some y=>rw [hr] at h;simp only [Option.map_some,Option.some.injEq,Prod.mk.injEq] at h;rw [h.1] at hr;exact hx 4 t hr
  · split at h
    · cases hr:Tm.bZ 8 t with
      | none=>rw [hr] at h;cases h
      | some y=>rw [hr] at h;simp only [Option.map_some,Option.some.injEq,Prod.mk.injEq] at h;rw [h.1] at hr;exact hx 8 t hr
    · split at h
      · cases hr:Tm.letter c with
        | none=>rw [hr] at h;cases h
        | some y=>rw [hr] at h;simp only [Option.map_some,Option.some.injEq,Prod.mk.injEq] at h;have:=RH hr;unfold Tm.qc;omega
      {cases h}
theorem aeb {x:Nat} (h:Tm.qc x):Lib.runeCells (x:Int)=(Tm.fZ x).map dI:=by show Lib.runeCells (x:Int)=(Tm.enc x).map dI;rw [Tm.MV x h];unfold Tm.qc at h;unfold Lib.runeCells;by_cases h1:x<128;{rw [if_pos h1,Lib.encodeRuneZ_one ak ak];simp only [List.map_cons,List.map_nil,dI,Tm.oK _ (show x<256 by omega)]};rw [if_neg h1];by_cases h2:x<2048;{rw [if_pos h2,Lib.encodeRuneZ_two ak ak];simp only [List.map_cons,List.map_nil,dI,Tm.oK _ (show 192+x / 64<256 by omega),Tm.oK _ (show 128+x % 64<256 by omega)];congr 2};rw [if_neg h2];by_cases h3:x<65536;{rw [if_pos h3,Lib.encodeRuneZ_three ak];simp only [List.map_cons,List.map_nil,dI,Tm.oK _ (show 224+x / 4096<256 by omega),Tm.oK _ (show 128+x / 64 % 64<256 by omega),Tm.oK _ (show 128+x % 64<256 by omega)];congr 2};rw [if_neg h3,Lib.encodeRuneZ_four ak ak];simp only [List.map_cons,List.map_nil,dI,Tm.oK _ (show 240+x / 262144<256 by omega),Tm.oK _ (show 128+x / 4096 % 64<256 by omega),Tm.oK _ (show 128+x / 64 % 64<256 by omega),Tm.oK _ (show 128+x % 64<256 by omega)];congr 2
def aec (r:Option (List UInt8×List UInt8)):Value:=.tuple #[aA (Cu r),.bool r.isSome]
def aed (q:Nat) (l:List UInt8) (r:Option (List UInt8×List UInt8)) (w:World) (x:Ending) (w':World):Prop:=
 x=.returned (aec r)∧(∃ j,j≤l.length∧(r≠none→l.drop j=NA r)∧Pr w' q l j)∧aH q w w'
theorem qQ (q:Nat) (l:List UInt8) (i:Nat) (e:UInt8) (lit:Bool) (w:World) (hE:cu w) (hq:q≠4) (hr:Pr w q l i) (hl:l.length≤10000000) (hi:i≤l.length) (he:e≠92) (h10:e≠10∧e≠13) :
  Calls prog 206 #[bB q,.int .u8 (e.toNat:Nat),.bool lit] w (aed q l (Tm.bP e lit (l.drop i)) w):=by
 obtain ⟨i0,hi0,hz0,hz1,hz2⟩:=info_parts Tryz.info5;have oZ:q<w.heap.size:=hr.lt;have HR:=aj hr;obtain ⟨ANS,hA⟩:=aB (Tm.bP e lit (l.drop i));rw [←hA];have HA:=aj (show ANS=(Tm.bP e lit (l.drop i)).map (fun r=>([]++r.1,r.2)) by rw [hA];cases Tm.bP e lit (l.drop i) <;> rfl);have ES:=aj (fun (W:World) (j:Nat) (hB:aH q w W) (hr:Pr W q l j) (hj:j≤l.length)=>ad_ q lit l j W (hE.but hB hq) hq hr ak hj);clear hA hr hE;go_enter func206,ntmps206;go_wp2;go_step3
 go_wp2;go_step3
 go_wp2;go_loopg [8,9,10,11] l.length (fun gk s8 s9 s10 s11 wr=>∃ (out:List UInt8) (j:Nat),j≤l.length∧l.length-j≤gk∧out.length≤4*j∧Hid (Pr wr q l j)∧Hid (aH q w wr)∧Hid (wr.ownsRow w.heap.size 5 1 s8 out.length (out.map dI))∧Hid (ANS=(Tm.bP e lit (l.drop j)).map (fun r=>(out++r.1,r.2))))
 case atStart=>exact ⟨[],i,hi,ak,aI,HR,aH.refl _ _,World.ownsRow_nil _ _ _ _,HA⟩
 case round=>
  obtain ⟨out,j,hj,hg,ho,HT,HB,HO,HP⟩:=hrel;obtain ⟨c0,c1,f0,f1⟩:=HT.out.cells;have iA:=HB.out.size;match hd:l.drop j with
  | []=>
   have hjl:j=l.length:=(by have:=Ew l j hd;omega);have HF:=aj (show ANS=none by rw [HP.out,hd];rfl);subst hjl;have hjb:decide ((l.length:Int)<(l.length:Int))=false:=decide_eq_false ak;clear hd HP;go_wp2;(go_quiet (fail));go_wp2;go_ret2
   exact ⟨by rw [HF.out];rfl,⟨l.length,Nat.le_refl _,fun h=>absurd HF.out h,HT.out⟩,HB.out.trans (aH.drawn q wr _)⟩
  | c::u=>
   obtain ⟨hjl,hget,d9⟩:=nE l j c u hd;have hcc:=fun q=>fH l j c hget q;have uR:(j:Int)<(l.length:Int):=ak;have hjb:decide ((j:Int)<(l.length:Int))=true:=decide_eq_true uR;have HC:=aj (show Tm.bP e lit (l.drop j)=_ by rw [hd,Tm.Ga]);have uS:=aj d9;have hce:((c.toNat:Int)==(e.toNat:Int))=decide (c=e):=(by rw [Bool.eq_iff_iff,beq_iff_eq,decide_eq_true_iff];exact ⟨fun h=>UInt8.toNat_inj.1 ak,fun h=>by rw [h]⟩);clear hd d9 hget;by_cases h1:c=e
   · have HF:=aj (show ANS=some (out,u) by rw [HP.out,HC.out,if_pos h1];simp);rw [decide_eq_true h1] at hce;have CV:=aj (fun (W:World) (h:W.ownsRow w.heap.size 5 1 u8 out.length (out.map dI))=>MS h rfl);clear h1 HP HC;go_wp2;(go_quiet (fail));obtain ⟨n1,hn1⟩:=aB nq;subst hn1;go_wp2;(go_quiet (fail));have cv:=CV.out ((wr.drewN (n1+nq)).setCell ⟨q,1,none⟩ (.int .i64 ((j:Int)+1))) (Jc HO.out ((aH.drawn q wr (n1+nq)).trans (aH.set q _ 1 (.int .i64 ((j:Int)+1)))) oZ);go_wp2;rw [Exit.noGoto_ret];go_ret2
     exact ⟨by rw [HF.out];rfl,⟨j+1,hjl,fun _=>by rw [HF.out];exact uS.out,Pr.to (w:=wr.drewN (n1+nq)) HT.out (j+1)⟩,HB.out.trans ((aH.drawn q wr (n1+nq)).trans (aH.set q _ 1 _))⟩
   rw [decide_eq_false h1] at hce;by_cases h2:c=92
   · have Jd:((c.toNat:Int)==10)=false:=(by rw [h2];rfl);have Ez:((c.toNat:Int)==13)=false:=(by rw [h2];rfl);have aee:((c.toNat:Int)==92)=true:=(by rw [h2];rfl);have nN:=aj (fun (W:World) hB hr=>ES.out W (j+1) hB hr hjl);rw [uS.out] at nN;cases hes:iG lit u with
     | none=>
      have HF:=aj (show ANS=none by rw [HP.out,HC.out,if_neg h1,if_pos h2,Jb,hes];rfl);rw [hes] at nN;have Je:Hid (∀ W,aH q w W→Pr W q l (j+1)→Calls prog 234 #[bB q,.bool lit] W fun x w'=>x=.returned (.tuple #[.int .i32 0,.bool false])∧(∃ k,k≤l.length∧(∀ p:Nat×Nat,none=some p→k=j+1+p.2)∧Pr w' q l k)∧aH q W w'):=nN;clear h1 h2 HP HC hes nN;go_wp2;(go_quiet (fail));obtain ⟨n1,hn1⟩:=aB nq;subst hn1;go_wp2;(go_quiet (fail));have RU:=aj (HB.out.trans ((aH.drawn q wr (n1+nq)).trans (aH.set q _ 1 (.int .i64 ((j:Int)+1)))));have Ar:=aj (Pr.to (w:=wr.drewN (n1+nq)) HT.out (j+1));(go_wp2_with fail);refine (Je.out _ RU.out Ar.out).mono ?_;rintro x w3 ⟨rfl,⟨k,hk,_,hr3⟩,hb3⟩;have HR3:=aj hr3;have HB3:=aj (RU.out.trans hb3);clear hr3 hb3;go_wp2;(try rw [Exit.noGoto_ret]);go_ret2
      exact ⟨by rw [HF.out];rfl,⟨k,hk,fun h=>absurd HF.out h,HR3.out⟩,HB3.out⟩
     | some p=>
      obtain ⟨x,n⟩:=p;have hlen:=Tm.Gb (lit:=lit) (s:=u) (x:=Tm.fZ x) (n:=n) (by rw [Jb,hes];rfl);obtain ⟨hok,hmx⟩:=aea hes;have vX:u.length+(j+1)=l.length:=(by rw [←uS.out,List.length_drop];omega);have HF:=aj (show ANS=(Tm.bP e lit (l.drop (j+1+n))).map (fun r=>((out++Tm.fZ x)++r.1,r.2)) by rw [HP.out,HC.out,if_neg h1,if_pos h2,Jb,hes];simp only [Option.map_some,Option.map_map];rw [←uS.out,List.drop_drop];congr 1;funext z;simp [Function.comp]);rw [hes] at nN;have Je:Hid (∀ W,aH q w W→Pr W q l (j+1)→Calls prog 234 #[bB q,.bool lit] W fun y w'=>y=.returned (.tuple #[.int .i32 (x:Nat),.bool true])∧(∃ k,k≤l.length∧(∀ p:Nat×Nat,some (x,n)=some p→k=j+1+p.2)∧Pr w' q l k)∧aH q W w'):=nN;have AR:=aj (fun (W:World) (h:W.ownsRow w.heap.size 5 1 u8 out.length (out.map dI)) (hz:w.heap.size≤W.heap.size)=>Tryz.utf8_AppendRune_plain w.heap.size u8 out.length (out.map dI) (x:Int) ak ak W h ak hz);rw [aeb hok,List.length_map,←List.map_append,←List.length_append] at AR;have hol:(out++Tm.fZ x).length≤4*(j+1+n):=(by rw [List.length_append];omega);have hjn:j+1+n≤l.length:=ak;obtain ⟨Jf,ho2⟩:=aB (out++Tm.fZ x);rw [←ho2] at HF AR hol;clear h1 h2 HP HC hes nN hlen ho2;go_wp2;(go_quiet (fail));obtain ⟨n1,hn1⟩:=aB nq;subst hn1;go_wp2;(go_quiet (fail));have nV:=aj ((aH.drawn q wr (n1+nq)).trans (aH.set q _ 1 (.int .i64 ((j:Int)+1))));have Ar:=aj (Pr.to (w:=wr.drewN (n1+nq)) HT.out (j+1));(go_wp2_with fail);refine (Je.out _ (HB.out.trans nV.out) Ar.out).mono ?_;rintro y w3 ⟨rfl,⟨k,hk,hkp,hr3⟩,hb3⟩;have HR3:=aj hr3;have HB3:=aj (HB.out.trans (nV.out.trans hb3));have oh:=aj (Jc HO.out (nV.out.trans hb3) oZ);have hk2:k=j+1+n:=hkp (x,n) rfl;subst hk2;clear hr3 hb3 hkp;(go_wp2_with fail);refine (AR.out _ oh.out HB3.out.size).mono ?_;rintro y w4 ⟨v4,rfl,pF,o4,hg4⟩;have jA:=aj pF;have HR4:=aj (HR3.out.grown (RQ hg4) (fun k hk=>by have:=(oh.out.lt k hk).1;omega));have aT:=aj (RO HB3.out (RQ hg4) (fun k hk=>(oh.out.lt k hk).1));clear pF hg4;go_wp2;go_roundg (l.length-(j+1+n))
      (case measure=>omega);case rel=>exact ⟨Jf,j+1+n,hjn,Nat.le_refl _,hol,HR4,aT,jA,HF⟩
   · have aee:((c.toNat:Int)==92)=false:=beq_eq_false_iff_ne.2 (fun h=>h2 (UInt8.toNat_inj.1 (show c.toNat=(92:UInt8).toNat by show c.toNat=92;omega)));by_cases h3:c=10∨c=13
     · have HF:=aj (show ANS=none by rw [HP.out,HC.out,if_neg h1,if_neg h2,if_pos h3];rfl);rcases h3 with h3 | h3
       · have Jd:((c.toNat:Int)==10)=true:=(by rw [h3];rfl);clear h1 h2 h3 HP HC;go_wp2;(go_quiet (fail));obtain ⟨n1,hn1⟩:=aB nq;subst hn1;go_wp2;(go_quiet (fail));go_wp2;(try rw [Exit.noGoto_ret]);go_ret2
         exact ⟨by rw [HF.out];rfl,⟨j+1,hjl,fun h=>absurd HF.out h,Pr.to (w:=wr.drewN (n1+nq)) HT.out (j+1)⟩,HB.out.trans ((aH.drawn q wr (n1+nq)).trans (aH.set q _ 1 _))⟩
       · have Jd:((c.toNat:Int)==10)=false:=(by rw [h3];rfl);have Ez:((c.toNat:Int)==13)=true:=(by rw [h3];rfl);clear h1 h2 h3 HP HC;go_wp2;(go_quiet (fail));obtain ⟨n1,hn1⟩:=aB nq;subst hn1;go_wp2;(go_quiet (fail));go_wp2;(try rw [Exit.noGoto_ret]);go_ret2
         exact ⟨by rw [HF.out];rfl,⟨j+1,hjl,fun h=>absurd HF.out h,Pr.to (w:=wr.drewN (n1+nq)) HT.out (j+1)⟩,HB.out.trans ((aH.drawn q wr (n1+nq)).trans (aH.set q _ 1 _))⟩
     · have Jd:((c.toNat:Int)==10)=false:=beq_eq_false_iff_ne.2 (fun h=>h3 (.inl (UInt8.toNat_inj.1 (show c.toNat=(10:UInt8).toNat by show c.toNat=10;omega))));have Ez:((c.toNat:Int)==13)=false:=beq_eq_false_iff_ne.2 (fun h=>h3 (.inr (UInt8.toNat_inj.1 (show c.toNat=(13:UInt8).toNat by show c.toNat=13;omega))));have HF:=aj (show ANS=(Tm.bP e lit (l.drop (j+1))).map (fun r=>((out++[c])++r.1,r.2)) by rw [HP.out,HC.out,if_neg h1,if_neg h2,if_neg h3,uS.out];simp only [Option.map_map];congr 1;funext z;simp [Function.comp]);have hol:(out++[c]).length≤4*(j+1):=(by rw [List.length_append];simp;omega);have RV:(out++[c]).length=out.length+1:=aI;have hmp:(out++[c]).map dI=out.map dI++[dI c]:=aI;obtain ⟨Jf,ho2⟩:=aB (out++[c]);rw [←ho2] at HF hol RV hmp;clear h1 h2 h3 HP HC ho2;go_wp2;(go_quiet (fail));obtain ⟨n1,hn1⟩:=aB nq;subst hn1;go_wp2;(go_quiet (fail));have nV:=aj ((aH.drawn q wr (n1+nq)).trans (aH.set q _ 1 (.int .i64 ((j:Int)+1))));have Ar:=aj (Pr.to (w:=wr.drewN (n1+nq)) HT.out (j+1));have oh:=aj (Jc HO.out nV.out oZ);have HB3:=aj (HB.out.trans nV.out);(go_wp2_with (at_builtin;refine yx rfl (.tmp 60) (.tmp 62) 32 rfl w.heap.size 5 i0 _ 1 underlying32 hi0 hz0 hz1 hz2 rfl u8 _ _ [dI c] 1 (by rfl) ((wr.drewN (n1+nq)).setCell ⟨q,1,none⟩ (.int .i64 ((j:Int)+1))) rfl rfl oh.out wr.heap.size ?hh rfl ?one ?b1 ?b2 ?base ?_));(case hh=>simp);(case one=>intro u hu;simp at hu;rw [hu];rfl);(case b1=>unfold maxLen;omega);(case b2=>omega);(case base=>exact HB3.out.size);intro v4 w4 pF hg4 _;have jA:=aj pF;rw [←RV,←hmp] at jA;have HR4:=aj (Ar.out.grown hg4 (fun k hk=>by have:=(oh.out.lt k hk).1;omega));have aT:=aj (RO HB3.out hg4 (fun k hk=>(oh.out.lt k hk).1));clear pF hg4;go_wp2;go_roundg (l.length-(j+1))
       (case measure=>omega);case rel=>exact ⟨Jf,j+1,hjl,Nat.le_refl _,hol,HR4,aT,jA,HF⟩
theorem om {fn:Func} {tmps:Array Value} {Z:World} {b:Nat} {v0 v1 v2 v3:Value} (ht:tmps.getD 2 undef=.pointer (some ⟨b,0,none⟩)) (h3:tmps.getD 3 undef=v3) (hZ:aC Z b [v0,v1,v2] 61) (hf:fn.results=#[.cell 2 61,.tmp 3]) :
  (results fn tmps).run prog Z=.ok (.tuple #[.agg #[v0,v1,v2],v3]) Z:=by
 obtain ⟨h0,h1,h2⟩:=bO hZ;have ht':tmps[2]?.getD undef=.pointer (some ⟨b,0,none⟩):=by simpa using ht
 have h3':tmps[3]?.getD undef=v3:=by simpa using h3
 simp [results,hf,ht',h3',go_sem,h0,h1,h2]
theorem oo {w X:World} {q b j:Nat} {x y z v0 v1 v2:Value} {l:List UInt8} {t:TypeId} (hT:aC X b [x,y,z] t) (hq:Pr X q l j) (hne:b≠q) (hB:aH q w X) (hb:w.heap.size≤b) :
  aC (((X.setCell ⟨b,0,none⟩ v0).setCell ⟨b,1,none⟩ v1).setCell ⟨b,2,none⟩ v2) b [v0,v1,v2] t∧Pr (((X.setCell ⟨b,0,none⟩ v0).setCell ⟨b,1,none⟩ v1).setCell ⟨b,2,none⟩ v2) q l j∧aH q w (((X.setCell ⟨b,0,none⟩ v0).setCell ⟨b,1,none⟩ v1).setCell ⟨b,2,none⟩ v2):=by refine ⟨((hT.set 0 v0).set 1 v1).set 2 v2,aC.other (aC.other (aC.other hq (Ne.symm hne) 0 v0) (Ne.symm hne) 1 v1) (Ne.symm hne) 2 v2,?_⟩;have st:∀ (X:World) (i:Nat) (v:Value),aH q w X→aH q w (X.setCell ⟨b,i,none⟩ v):=fun X i v h=>⟨h.os,h.tape,h.output,by have:=h.size;simpa using this,fun k hk hn=>by rw [Below.heap_setCell _ _ _ _ (by show k≠b;omega)];exact h.block k hk hn⟩;exact st _ _ _ (st _ _ _ (st _ _ _ hB))
def mg (q:Nat) (l:List UInt8) (w:World) (r:Option (Nat×List UInt8×List UInt8×List UInt8)) (e:Ending) (w':World):Prop:=
 aH q w w'∧match r with
  | none=>(∃ (k:Nat) (t x:List UInt8),e=.returned (.tuple #[bG (k:Nat) t x,.bool false]))∧∃ j,j≤l.length∧Pr w' q l j
  | some (k,t,x,v)=>e=.returned (.tuple #[bG (k:Nat) t x,.bool true])∧∃ j,j≤l.length∧l.drop j=v∧Pr w' q l j
theorem aef (q:Nat) (l:List UInt8) (i:Nat) (w:World) (hE:cu w) (hq:q≠4) (hr:Pr w q l i) (hl:l.length≤10000000) (hi:i≤l.length) (h:Tm.bP 34 true (l.drop i)=none) :
  Calls prog 209 #[bB q] w (mg q l w (Tm.dM (l.drop i))):=by
 have HN:=aj (show Tm.dM (l.drop i)=none by unfold Tm.dM;rw [h]);rw [HN.out];have hlt:=hr.lt;have UP:=aj (fun (W:World) (hB:aH q w W) (hr:Pr W q l i)=>qQ q l i 34 true W (hE.but hB hq) hq hr hl hi aL aL);rw [h] at UP;have kU:Hid (∀ W,aH q w W→Pr W q l i→Calls prog 206 #[bB q,.int .u8 34,.bool true] W fun x w'=>x=.returned (.tuple #[aA [],.bool false])∧(∃ j,j≤l.length∧((none:Option (List UInt8×List UInt8))≠none→l.drop j=[])∧Pr w' q l j)∧aH q W w'):=UP;have HR1:=aj (hr.keep ((Below.refl _ _).alloc aF (.cells #[.int .i64 0,.string ⟨#[]⟩,.string ⟨#[]⟩] 61)));clear UP h hr hE;go_enter func209,ntmps209;have HB1:=aj (show aH q w (w.alloc (.cells #[.int .i64 0,.string ⟨#[]⟩,.string ⟨#[]⟩] 61)) from aH.below ((Below.refl w.heap.size w).alloc aF _));have HT1:=aj (aC.new w [.int .i64 0,aA [],aA []] 61);go_wp2_with fail
 refine (kU.out _ HB1.out HR1.out).mono ?_;rintro x w2 ⟨rfl,⟨j,hj,_,hr2⟩,hb2⟩;have HT2:=aj (aH.blk HT1.out hb2 ak);have HB2:=aj (HB1.out.trans hb2);have HR2:=aj hr2;clear hr2 hb2;obtain ⟨g0,g1,g2⟩:=bO HT2.out;obtain ⟨k0,k1,k2⟩:=eX HT2.out;go_wp2;have HX:=oo (hT:=HT2.out) (v0:=.int .i64 0) (v1:=.string ⟨([]:List UInt8).toArray⟩) (v2:=.string ⟨([]:List UInt8).toArray⟩) (hq:=HR2.out) (hne:=ak) (hB:=HB2.out) (hb:=Nat.le_refl _);obtain ⟨hx1,hx2,hx3⟩:=HX;exact bodyPost_ret (v:=.tuple #[bG (0:Nat) [] [],.bool false]) (om rfl rfl hx1 results209) rfl ⟨hx3,⟨0,[],[],rfl⟩,j,hj,hx2⟩
theorem aeg:∀ k:Fin 256,Lib.lowerB (UInt8.ofNat k.val)=Tm.lower (UInt8.ofNat k.val):=aL
theorem aeh (b:UInt8):Lib.lowerB b=Tm.lower b:=by have h:=aeg ⟨b.toNat,b.toNat_lt⟩;simpa using h
theorem aei {c:UInt8} (h:Tm.dX c=true):c.toNat<128:=by unfold Tm.dX Tm.dJ Tm.small Tm.digit at h;simp only [Bool.or_eq_true,Bool.and_eq_true,decide_eq_true_eq,beq_iff_eq] at h;rcases h with h | h;{omega};{rw [h];decide}
theorem aej (n:List UInt8) (w:World) (hn:n.length≤1000000000) (h:∀ c∈n,Tm.dX c=true):Calls prog 236 #[aA n] w fun e w'=>e=.returned (aA (n.map Tm.lower))∧Below w.heap.size w w':=by
 have:=Tryz.strings_ToLower_ascii ⟨n.toArray⟩ w (by simp [ByteArray.size];omega) (fun j b hb=>aei (h b (List.mem_of_getElem? (by simpa using hb))));have e:Lib.toLowerA (⟨n.toArray⟩:ByteArray).data.toList=n.map Tm.lower:=by unfold Lib.toLowerA;exact List.map_congr_left fun c _=>aeh c
 rw [e] at this;exact this
theorem RY {v:List UInt8} {c:UInt8} (h:v.headD 0=c) (hc:c≠0):v.take 1=[c]:=by
 cases v with
 | nil=>exact absurd h.symm hc
 | cons d u=>simp only [List.headD_cons] at h;rw [h];rfl
theorem Jg {v:List UInt8} {c:UInt8} (h:v.headD 0≠c):v.take 1≠[c]:=by
 cases v with
 | nil=>simp
 | cons d u=>simp only [List.headD_cons] at h;simpa using h
theorem RZ {p:UInt8→Bool}:∀ {l:List UInt8} {c:UInt8},c∈l.takeWhile p→p c=true
 | d::l,c,h=>by
  rw [List.takeWhile_cons] at h
  split at h
  · rcases List.mem_cons.1 h with rfl | h
    · assumption
    · exact RZ h
  · cases h
theorem aek (q:Nat) (l:List UInt8) (i:Nat) (w:World) (t v:List UInt8) (hE:cu w) (hq:q≠4) (hr:Pr w q l i) (hl:l.length≤10000000) (hi:i≤l.length) (h:Tm.bP 34 true (l.drop i)=some (t,v)) (h1:v.headD 0≠64) (h2:v.take 3≠[94,94,60]) :
  Calls prog 209 #[bB q] w (mg q l w (Tm.dM (l.drop i))):=by
 have HN:=aj (show Tm.dM (l.drop i)=some (3,t,[],v) by unfold Tm.dM;rw [h];simp only;rw [if_neg h1,if_neg h2]);rw [HN.out];have hlt:=hr.lt;have hvl:=Tm.lK _ aF h;have HE:=aj (fun W hB=>hE.but (w':=W) hB hq);have UP:=aj (fun (W:World) (hB:aH q w W) (hr:Pr W q l i)=>qQ q l i 34 true W (HE.out W hB) hq hr hl hi aL aL);rw [h] at UP;have kU:Hid (∀ W,aH q w W→Pr W q l i→Calls prog 206 #[bB q,.int .u8 34,.bool true] W fun x w'=>x=.returned (.tuple #[aA t,.bool true])∧(∃ j,j≤l.length∧(some (t,v)≠none→l.drop j=v)∧Pr w' q l j)∧aH q W w'):=UP;have HR1:=aj (hr.keep ((Below.refl _ _).alloc aF (.cells #[.int .i64 0,.string ⟨#[]⟩,.string ⟨#[]⟩] 61)));have S1:=aj (fun (W:World) (j:Nat) (hd:l.drop j=v) (hj:j≤l.length) (hr:Pr W q l j)=>iK q l [64] j W hr ak hj aL (by rw [hd];exact Jg h1));have S2:=aj (fun (W:World) (j:Nat) (hd:l.drop j=v) (hj:j≤l.length) (hr:Pr W q l j)=>iK q l [94,94,60] j W hr ak hj aL (by rw [hd];exact h2));clear UP h hr hE h1 h2;go_enter func209,ntmps209;have HB1:=aj (show aH q w (w.alloc (.cells #[.int .i64 0,.string ⟨#[]⟩,.string ⟨#[]⟩] 61)) from aH.below ((Below.refl w.heap.size w).alloc aF _));have HT1:=aj (aC.new w [.int .i64 0,aA [],aA []] 61);go_wp2_with fail
 refine (kU.out _ HB1.out HR1.out).mono ?_;rintro x w2 ⟨rfl,⟨j,hj,hjd,hr2⟩,hb2⟩;have HT2:=aj (aH.blk HT1.out hb2 ak);have HB2:=aj (HB1.out.trans hb2);have HR2:=aj hr2;have HD2:=aj (hjd aI);clear hr2 hb2 hjd;go_wp2_with fail
 refine (S1.out _ j HD2.out hj HR2.out).mono ?_;rintro x w3 ⟨rfl,hr3,hb3⟩;have HT3:=aj (aH.blk HT2.out hb3 ak);have HB3:=aj (HB2.out.trans hb3);have HR3:=aj hr3;clear hr3 hb3;go_wp2_with fail
 refine (S2.out _ j HD2.out hj HR3.out).mono ?_;rintro x w4 ⟨rfl,hr4,hb4⟩;have cO:=aj (aH.blk HT3.out hb4 ak);have aT:=aj (HB3.out.trans hb4);have HR4:=aj hr4;clear hr4 hb4;obtain ⟨g0,g1,g2⟩:=bO cO.out;obtain ⟨k0,k1,k2⟩:=eX cO.out;go_wp2;have HX:=oo (hT:=cO.out) (v0:=.int .i64 3) (v1:=.string ⟨(t:List UInt8).toArray⟩) (v2:=.string ⟨([]:List UInt8).toArray⟩) (hq:=HR4.out) (hne:=ak) (hB:=aT.out) (hb:=Nat.le_refl _);obtain ⟨hx1,hx2,hx3⟩:=HX;exact bodyPost_ret (v:=.tuple #[bG (3:Nat) (t) ([]),.bool true]) (om rfl rfl hx1 results209) rfl ⟨hx3,rfl,j,hj,HD2.out,hx2⟩
theorem ael (q:Nat) (l:List UInt8) (i:Nat) (w:World) (t v:List UInt8) (hE:cu w) (hq:q≠4) (hr:Pr w q l i) (hl:l.length≤10000000) (hi:i≤l.length) (h:Tm.bP 34 true (l.drop i)=some (t,v)) (h1:v.headD 0=64) :
  Calls prog 209 #[bB q] w (mg q l w (Tm.dM (l.drop i))):=by
 have HN:=aj (show Tm.dM (l.drop i)=some (4,t,(v.tail.takeWhile Tm.dX).map Tm.lower,v.tail.dropWhile Tm.dX) by unfold Tm.dM;rw [h];simp only;rw [if_pos h1]);rw [HN.out];have hlt:=hr.lt;have hvl:=Tm.lK _ aF h;have HE:=aj (fun W hB=>hE.but (w':=W) hB hq);have UP:=aj (fun (W:World) (hB:aH q w W) (hr:Pr W q l i)=>qQ q l i 34 true W (HE.out W hB) hq hr hl hi aL aL);rw [h] at UP;have kU:Hid (∀ W,aH q w W→Pr W q l i→Calls prog 206 #[bB q,.int .u8 34,.bool true] W fun x w'=>x=.returned (.tuple #[aA t,.bool true])∧(∃ j,j≤l.length∧(some (t,v)≠none→l.drop j=v)∧Pr w' q l j)∧aH q W w'):=UP;have HR1:=aj (hr.keep ((Below.refl _ _).alloc aF (.cells #[.int .i64 0,.string ⟨#[]⟩,.string ⟨#[]⟩] 61)));have hdt:∀ j,l.drop j=v→l.drop (j+1)=v.tail∧j+1≤l.length:=by intro j hd;have h2:=RY h1 aL;obtain ⟨u,hu⟩:=take_one h2;rw [hu] at hd ⊢;obtain ⟨a,_,b⟩:=nE l j 64 u hd;exact ⟨b,a⟩
 have S1:=aj (fun (W:World) (j:Nat) (hd:l.drop j=v) (hj:j≤l.length) (hr:Pr W q l j)=>og q l [64] j W hr ak hj aL (by rw [hd];exact RY h1 aL));obtain ⟨nm,hnm⟩:=aB (v.tail.takeWhile Tm.dX);have NM:Hid (∀ (W:World) (j:Nat),l.drop j=v.tail→j≤l.length→Pr W q l j→Calls prog 207 #[bB q,.func (.func 237) #[] #[]] W fun x w'=>x=.returned (aA nm)∧(∃ k,k≤l.length∧l.drop k=v.tail.dropWhile Tm.dX∧Pr w' q l k)∧aH q W w'):=by intro W j hd hj hr;have:=Rx 237 q Tm.dX l j W (enters_of func237 aG rfl) (fun c W=>adR c W) hr ak hj;rw [hd,←hnm] at this;exact this
 have hnl:nm.length≤1000000000:=by have:=yG Tm.dX v.tail;rw [←hnm,List.length_tail] at this;have:=List.length_drop (i:=i) (l:=l);omega
 have LW:=aj (fun W=>aej nm W hnl (fun c hc=>by rw [hnm] at hc;exact RZ hc));rw [←hnm];have HDT:=aj hdt;clear UP h hr hE h1 hdt hnm;go_enter func209,ntmps209;have HB1:=aj (show aH q w (w.alloc (.cells #[.int .i64 0,.string ⟨#[]⟩,.string ⟨#[]⟩] 61)) from aH.below ((Below.refl w.heap.size w).alloc aF _));have HT1:=aj (aC.new w [.int .i64 0,aA [],aA []] 61);go_wp2_with fail
 refine (kU.out _ HB1.out HR1.out).mono ?_;rintro x w2 ⟨rfl,⟨j,hj,hjd,hr2⟩,hb2⟩;have HT2:=aj (aH.blk HT1.out hb2 ak);have HB2:=aj (HB1.out.trans hb2);have HR2:=aj hr2;have HD2:=aj (hjd aI);clear hr2 hb2 hjd;have sP:=aj (HDT.out j HD2.out);go_wp2_with fail
 refine (S1.out _ j HD2.out hj HR2.out).mono ?_;rintro x w3 ⟨rfl,hr3,hb3⟩;have HT3:=aj (aH.blk HT2.out hb3 ak);have HB3:=aj (HB2.out.trans hb3);have HR3:=aj hr3;clear hr3 hb3;go_wp2_with fail
 refine (NM.out _ (j+1) sP.out.1 sP.out.2 HR3.out).mono ?_;rintro x w4 ⟨rfl,⟨k,hk,hkd,hr4⟩,hb4⟩;have cO:=aj (aH.blk HT3.out hb4 ak);have aT:=aj (HB3.out.trans hb4);have HR4:=aj hr4;have HK:=aj hkd;clear hr4 hb4 hkd;go_wp2_with fail
 refine (LW.out _).mono ?_;rintro x w5 ⟨rfl,hb5⟩;have dG:=aj (cO.out.keep hb5);have aO:=aj (aT.out.trans (aH.below hb5));have dz:=aj (HR4.out.keep hb5);clear hb5;obtain ⟨g0,g1,g2⟩:=bO dG.out;obtain ⟨k0,k1,k2⟩:=eX dG.out;go_wp2;have HX:=oo (hT:=dG.out) (v0:=.int .i64 4) (v1:=.string ⟨(t:List UInt8).toArray⟩) (v2:=.string ⟨(nm.map Tm.lower:List UInt8).toArray⟩) (hq:=dz.out) (hne:=ak) (hB:=aO.out) (hb:=Nat.le_refl _);obtain ⟨hx1,hx2,hx3⟩:=HX;exact bodyPost_ret (v:=.tuple #[bG (4:Nat) (t) (nm.map Tm.lower),.bool true]) (om rfl rfl hx1 results209) rfl ⟨hx3,rfl,k,hk,HK.out,hx2⟩
theorem aem (q:Nat) (l:List UInt8) (i:Nat) (w:World) (t v:List UInt8) (hE:cu w) (hq:q≠4) (hr:Pr w q l i) (hl:l.length≤10000000) (hi:i≤l.length) (h:Tm.bP 34 true (l.drop i)=some (t,v)) (y z:List UInt8) (h1:v.headD 0≠64) (h2:v.take 3=[94,94,60]) (h3:Tm.bP 62 false (v.drop 3)=some (y,z)) :
  Calls prog 209 #[bB q] w (mg q l w (Tm.dM (l.drop i))):=by
 have HN:=aj (show Tm.dM (l.drop i)=some (5,t,y,z) by unfold Tm.dM;rw [h];simp only;rw [if_neg h1,if_pos h2,h3];rfl);rw [HN.out];have hlt:=hr.lt;have hvl:=Tm.lK _ aF h;have HE:=aj (fun W hB=>hE.but (w':=W) hB hq);have UP:=aj (fun (W:World) (hB:aH q w W) (hr:Pr W q l i)=>qQ q l i 34 true W (HE.out W hB) hq hr hl hi aL aL);rw [h] at UP;have kU:Hid (∀ W,aH q w W→Pr W q l i→Calls prog 206 #[bB q,.int .u8 34,.bool true] W fun x w'=>x=.returned (.tuple #[aA t,.bool true])∧(∃ j,j≤l.length∧(some (t,v)≠none→l.drop j=v)∧Pr w' q l j)∧aH q W w'):=UP;have HR1:=aj (hr.keep ((Below.refl _ _).alloc aF (.cells #[.int .i64 0,.string ⟨#[]⟩,.string ⟨#[]⟩] 61)));have S1:=aj (fun (W:World) (j:Nat) (hd:l.drop j=v) (hj:j≤l.length) (hr:Pr W q l j)=>iK q l [64] j W hr ak hj aL (by rw [hd];exact Jg h1));have hd3:∀ j,l.drop j=v→l.drop (j+3)=v.drop 3∧j+3≤l.length:=by intro j hd;have e:=congrArg List.length h2;rw [List.length_take] at e;have e2:=congrArg List.length hd;rw [List.length_drop] at e2;simp only [List.length_cons,List.length_nil] at e;exact ⟨by rw [←hd,List.drop_drop],ak⟩
 have S2:=aj (fun (W:World) (j:Nat) (hd:l.drop j=v) (hj:j≤l.length) (hr:Pr W q l j)=>og q l [94,94,60] j W hr ak hj aL (by rw [hd];exact h2));have U2:Hid (∀ (W:World) (j:Nat),l.drop j=v.drop 3→j≤l.length→aH q w W→Pr W q l j→Calls prog 206 #[bB q,.int .u8 62,.bool false] W fun x w'=>x=.returned (.tuple #[aA y,.bool true])∧(∃ k,k≤l.length∧(some (y,z)≠none→l.drop k=z)∧Pr w' q l k)∧aH q W w'):=by intro W j hd hj hB hr;have:=qQ q l j 62 false W (HE.out W hB) hq hr hl hj aL aL;rw [hd,h3] at this;exact this
 have HD3:=aj hd3;clear UP h hr hE h1 h2 h3 hd3;go_enter func209,ntmps209;have HB1:=aj (show aH q w (w.alloc (.cells #[.int .i64 0,.string ⟨#[]⟩,.string ⟨#[]⟩] 61)) from aH.below ((Below.refl w.heap.size w).alloc aF _));have HT1:=aj (aC.new w [.int .i64 0,aA [],aA []] 61);go_wp2_with fail
 refine (kU.out _ HB1.out HR1.out).mono ?_;rintro x w2 ⟨rfl,⟨j,hj,hjd,hr2⟩,hb2⟩;have HT2:=aj (aH.blk HT1.out hb2 ak);have HB2:=aj (HB1.out.trans hb2);have HR2:=aj hr2;have HD2:=aj (hjd aI);clear hr2 hb2 hjd;have sP:=aj (HD3.out j HD2.out);go_wp2_with fail
 refine (S1.out _ j HD2.out hj HR2.out).mono ?_;rintro x w3 ⟨rfl,hr3,hb3⟩;have HT3:=aj (aH.blk HT2.out hb3 ak);have HB3:=aj (HB2.out.trans hb3);have HR3:=aj hr3;clear hr3 hb3;go_wp2_with fail
 refine (S2.out _ j HD2.out hj HR3.out).mono ?_;rintro x w4 ⟨rfl,hr4,hb4⟩;have cO:=aj (aH.blk HT3.out hb4 ak);have aT:=aj (HB3.out.trans hb4);have HR4:=aj hr4;clear hr4 hb4;go_wp2_with fail
 refine (U2.out _ (j+3) sP.out.1 sP.out.2 aT.out HR4.out).mono ?_;rintro x w5 ⟨rfl,⟨k,hk,hkd,fu⟩,hb5⟩;have dG:=aj (aH.blk cO.out hb5 ak);have aO:=aj (aT.out.trans hb5);have dz:=aj fu;have HK:=aj hkd;clear fu hb5 hkd;obtain ⟨g0,g1,g2⟩:=bO dG.out;obtain ⟨k0,k1,k2⟩:=eX dG.out;go_wp2;have HX:=oo (hT:=dG.out) (v0:=.int .i64 5) (v1:=.string ⟨(t:List UInt8).toArray⟩) (v2:=.string ⟨(y:List UInt8).toArray⟩) (hq:=dz.out) (hne:=ak) (hB:=aO.out) (hb:=Nat.le_refl _);obtain ⟨hx1,hx2,hx3⟩:=HX;exact bodyPost_ret (v:=.tuple #[bG (5:Nat) (t) (y),.bool true]) (om rfl rfl hx1 results209) rfl ⟨hx3,rfl,k,hk,HK.out aI,hx2⟩
theorem aen (q:Nat) (l:List UInt8) (i:Nat) (w:World) (t v:List UInt8) (hE:cu w) (hq:q≠4) (hr:Pr w q l i) (hl:l.length≤10000000) (hi:i≤l.length) (h:Tm.bP 34 true (l.drop i)=some (t,v)) (h1:v.headD 0≠64) (h2:v.take 3=[94,94,60]) (h3:Tm.bP 62 false (v.drop 3)=none) :
  Calls prog 209 #[bB q] w (mg q l w (Tm.dM (l.drop i))):=by
 have HN:=aj (show Tm.dM (l.drop i)=none by unfold Tm.dM;rw [h];simp only;rw [if_neg h1,if_pos h2,h3];rfl);rw [HN.out];have hlt:=hr.lt;have hvl:=Tm.lK _ aF h;have HE:=aj (fun W hB=>hE.but (w':=W) hB hq);have UP:=aj (fun (W:World) (hB:aH q w W) (hr:Pr W q l i)=>qQ q l i 34 true W (HE.out W hB) hq hr hl hi aL aL);rw [h] at UP;have kU:Hid (∀ W,aH q w W→Pr W q l i→Calls prog 206 #[bB q,.int .u8 34,.bool true] W fun x w'=>x=.returned (.tuple #[aA t,.bool true])∧(∃ j,j≤l.length∧(some (t,v)≠none→l.drop j=v)∧Pr w' q l j)∧aH q W w'):=UP;have HR1:=aj (hr.keep ((Below.refl _ _).alloc aF (.cells #[.int .i64 0,.string ⟨#[]⟩,.string ⟨#[]⟩] 61)));have S1:=aj (fun (W:World) (j:Nat) (hd:l.drop j=v) (hj:j≤l.length) (hr:Pr W q l j)=>iK q l [64] j W hr ak hj aL (by rw [hd];exact Jg h1));have hd3:∀ j,l.drop j=v→l.drop (j+3)=v.drop 3∧j+3≤l.length:=by intro j hd;have e:=congrArg List.length h2;rw [List.length_take] at e;have e2:=congrArg List.length hd;rw [List.length_drop] at e2;simp only [List.length_cons,List.length_nil] at e;exact ⟨by rw [←hd,List.drop_drop],ak⟩
 have S2:=aj (fun (W:World) (j:Nat) (hd:l.drop j=v) (hj:j≤l.length) (hr:Pr W q l j)=>og q l [94,94,60] j W hr ak hj aL (by rw [hd];exact h2));have U2:Hid (∀ (W:World) (j:Nat),l.drop j=v.drop 3→j≤l.length→aH q w W→Pr W q l j→Calls prog 206 #[bB q,.int .u8 62,.bool false] W fun x w'=>x=.returned (.tuple #[aA [],.bool false])∧(∃ k,k≤l.length∧((none:Option (List UInt8×List UInt8))≠none→l.drop k=[])∧Pr w' q l k)∧aH q W w'):=by intro W j hd hj hB hr;have:=qQ q l j 62 false W (HE.out W hB) hq hr hl hj aL aL;rw [hd,h3] at this;exact this
 have HD3:=aj hd3;clear UP h hr hE h1 h2 h3 hd3;go_enter func209,ntmps209;have HB1:=aj (show aH q w (w.alloc (.cells #[.int .i64 0,.string ⟨#[]⟩,.string ⟨#[]⟩] 61)) from aH.below ((Below.refl w.heap.size w).alloc aF _));have HT1:=aj (aC.new w [.int .i64 0,aA [],aA []] 61);go_wp2_with fail
 refine (kU.out _ HB1.out HR1.out).mono ?_;rintro x w2 ⟨rfl,⟨j,hj,hjd,hr2⟩,hb2⟩;have HT2:=aj (aH.blk HT1.out hb2 ak);have HB2:=aj (HB1.out.trans hb2);have HR2:=aj hr2;have HD2:=aj (hjd aI);clear hr2 hb2 hjd;have sP:=aj (HD3.out j HD2.out);go_wp2_with fail
 refine (S1.out _ j HD2.out hj HR2.out).mono ?_;rintro x w3 ⟨rfl,hr3,hb3⟩;have HT3:=aj (aH.blk HT2.out hb3 ak);have HB3:=aj (HB2.out.trans hb3);have HR3:=aj hr3;clear hr3 hb3;go_wp2_with fail
 refine (S2.out _ j HD2.out hj HR3.out).mono ?_;rintro x w4 ⟨rfl,hr4,hb4⟩;have cO:=aj (aH.blk HT3.out hb4 ak);have aT:=aj (HB3.out.trans hb4);have HR4:=aj hr4;clear hr4 hb4;go_wp2_with fail
 refine (U2.out _ (j+3) sP.out.1 sP.out.2 aT.out HR4.out).mono ?_;rintro x w5 ⟨rfl,⟨k,hk,hkd,fu⟩,hb5⟩;have dG:=aj (aH.blk cO.out hb5 ak);have aO:=aj (aT.out.trans hb5);have dz:=aj fu;have HK:=aj hkd;clear fu hb5 hkd;obtain ⟨g0,g1,g2⟩:=bO dG.out;obtain ⟨k0,k1,k2⟩:=eX dG.out;go_wp2;have HX:=oo (hT:=dG.out) (v0:=.int .i64 5) (v1:=.string ⟨(t:List UInt8).toArray⟩) (v2:=.string ⟨([]:List UInt8).toArray⟩) (hq:=dz.out) (hne:=ak) (hB:=aO.out) (hb:=Nat.le_refl _);obtain ⟨hx1,hx2,hx3⟩:=HX;exact bodyPost_ret (v:=.tuple #[bG (5:Nat) (t) ([]),.bool false]) (om rfl rfl hx1 results209) rfl ⟨hx3,⟨5,t,[],rfl⟩,k,hk,hx2⟩
theorem R3 (q:Nat) (l:List UInt8) (i:Nat) (w:World) (hE:cu w) (hq:q≠4) (hr:Pr w q l i) (hl:l.length≤10000000) (hi:i≤l.length) :
  Calls prog 209 #[bB q] w (mg q l w (Tm.dM (l.drop i))):=by
 cases h:Tm.bP 34 true (l.drop i) with
 | none=>exact aef q l i w hE hq hr hl hi h
 | some p=>
  obtain ⟨t,v⟩:=p;by_cases h1:v.headD 0=64;{exact ael q l i w t v hE hq hr hl hi h h1}
  · by_cases h2:v.take 3=[94,94,60]
    · cases h3:Tm.bP 62 false (v.drop 3) with
      | none=>exact aen q l i w t v hE hq hr hl hi h h1 h2 h3
      | some p=>obtain ⟨y,z⟩:=p;exact aem q l i w t v hE hq hr hl hi h y z h1 h2 h3
    {exact aek q l i w t v hE hq hr hl hi h h1 h2}
end Go.Proofs.YtjaebndajhppgaaGreatDoor
