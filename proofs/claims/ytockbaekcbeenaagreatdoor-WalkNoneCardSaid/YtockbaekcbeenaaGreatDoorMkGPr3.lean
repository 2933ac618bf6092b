/-GPr3-/
import Derived.Test.YtockbaekcbeenaaGreatDoorMkHd1
import Derived.Test.YtockbaekcbeenaaGreatDoorMkPrEsc2
import Derived.Test.YtockbaekcbeenaaGreatDoorMkGTm2
import Derived.WalkMore
import Derived.Test.YtockbaekcbeenaaGreatDoorMkGLn1
set_option linter.unusedVariables false
set_option linter.unusedSimpArgs false
set_option maxRecDepth 100000
set_option maxHeartbeats 4000000
namespace Go.Proofs.YtockbaekcbeenaaGreatDoor
open Go.Proofs.Tryz
open Go.ChangeShapes Go.WideShapes Go.ChangeAt Go.RowKit
theorem Pr.lt {w:World} {q:Nat} {l:List UInt8} {i:Nat} (h:Pr w q l i):q<w.heap.size:=aB.lt h
theorem Kw {q B n:Nat} {w w':World} {v:Value} {t:TypeId} {xs:List Value} (h:w.ownsRow B t 1 v n xs) (hb:aK q w w') (hq:q<B):w'.ownsRow B t 1 v n xs:=by
 refine h.kept hb ?_;cases hv:v.ownBlock with
 | none=>exact .inl rfl
 | some k=>refine .inr ?_;have:=(h.lt k hv).1;simp;omega
theorem R_ {q:Nat} {w w1 w2:World} {o:Option Nat} (h:aK q w w1) (hg:w1.grownBy w2 o) (ho:∀ k,o=some k→w.heap.size≤k):aK q w w2:=by refine ⟨hg.os.trans h.os,hg.tape.trans h.tape,hg.output.trans h.output,Nat.le_trans h.size hg.size,fun i hi hn=>?_⟩;rw [hg.block i (Nat.lt_of_lt_of_le hi h.size) ?_];{exact h.block i hi hn};{intro e;have:=ho i e.symm;omega}
theorem Pr.grown {q i:Nat} {l:List UInt8} {w w':World} {o:Option Nat} (h:Pr w q l i) (hg:w.grownBy w' o) (ho:∀ k,o=some k→k≠q):Pr w' q l i:=by have hk:=hg.block q (aB.lt h) (fun e=>ho q e.symm rfl);unfold Pr aB at *;rw [hk];exact h
theorem Sb {w w':World} {o:Obj} {b:Option Nat} (h:(w.alloc o).grownBy w' b):w.grownBy w' b:=
 ⟨h.os,h.tape,h.output,by have:=h.size;simp at this;omega,fun k hk hn=>by rw [h.block k (by simp;omega) hn];exact Below.heap_alloc _ _ _ hk⟩
theorem adQ {lit:Bool} {s:List UInt8} {x n:Nat} (h:jk lit s=some (x,n)):Tm.tV x∧x≤1114111:=by
 have hx:∀ k t,Tm.dR k t=some x→Tm.tV x∧x≤1114111:=by intro k t hk;unfold Tm.dR at hk;split at hk;{cases hk};{rename_i y _;split at hk;{cases hk};{simp only [Option.some.injEq] at hk;unfold Tm.tV;omega}}
 cases s with
 | nil=>cases h
 | cons c t=>
  unfold jk at h;simp only at h;split at h
  · cases hr:Tm.dR 4 t with
    | none=>rw [hr] at h;cases h
    | some y=>rw [hr] at h;simp only [Option.map_some,Option.some.injEq,Prod.mk.injEq] at h;rw [h.1] at hr;exact hx 4 t hr
  · split at h
    · cases hr:Tm.dR 8 t with
      | none=>rw [hr] at h;cases h
      | some y=>rw [hr] at h;simp only [Option.map_some,Option.some.injEq,Prod.mk.injEq] at h;rw [h.1] at hr;exact hx 8 t hr
    · split at h
      · cases hr:Tm.letter c with
        | none=>rw [hr] at h;cases h
        | some y=>rw [hr] at h;simp only [Option.map_some,Option.some.injEq,Prod.mk.injEq] at h;have:=R8 hr;unfold Tm.tV;omega
      {cases h}
theorem adR {x:Nat} (h:Tm.tV x):Lib.runeCells (x:Int)=(Tm.kg x).map fO:=by show Lib.runeCells (x:Int)=(Tm.enc x).map fO;rw [Tm.ZV x h];unfold Tm.tV at h;unfold Lib.runeCells;by_cases h1:x<128;{rw [if_pos h1,Lib.encodeRuneZ_one ay ay];simp only [List.map_cons,List.map_nil,fO,Tm.qG _ (show x<256 by omega)]};rw [if_neg h1];by_cases h2:x<2048;{rw [if_pos h2,Lib.encodeRuneZ_two ay ay];simp only [List.map_cons,List.map_nil,fO,Tm.qG _ (show 192+x / 64<256 by omega),Tm.qG _ (show 128+x % 64<256 by omega)];congr 2};rw [if_neg h2];by_cases h3:x<65536;{rw [if_pos h3,Lib.encodeRuneZ_three ay];simp only [List.map_cons,List.map_nil,fO,Tm.qG _ (show 224+x / 4096<256 by omega),Tm.qG _ (show 128+x / 64 % 64<256 by omega),Tm.qG _ (show 128+x % 64<256 by omega)];congr 2};rw [if_neg h3,Lib.encodeRuneZ_four ay ay];simp only [List.map_cons,List.map_nil,fO,Tm.qG _ (show 240+x / 262144<256 by omega),Tm.qG _ (show 128+x / 4096 % 64<256 by omega),Tm.qG _ (show 128+x / 64 % 64<256 by omega),Tm.qG _ (show 128+x % 64<256 by omega)];congr 2
def adS (r:Option (List UInt8×List UInt8)):Value:=.tuple #[aA (upT r),.bool r.isSome]
def adT (q:Nat) (l:List UInt8) (r:Option (List UInt8×List UInt8)) (w:World) (x:Ending) (w':World):Prop:=
 x=.returned (adS r)∧(∃ j,j≤l.length∧(r≠none→l.drop j=upR r)∧Pr w' q l j)∧aK q w w'
theorem sj (q:Nat) (l:List UInt8) (i:Nat) (e:UInt8) (lit:Bool) (w:World) (hE:cu w) (hq:q≠4) (hr:Pr w q l i) (hl:l.length≤10000000) (hi:i≤l.length) (he:e≠92) (h10:e≠10∧e≠13) :
  Calls prog 155 #[bI q,.int .u8 (e.toNat:Nat),.bool lit] w (adT q l (Tm.dG e lit (l.drop i)) w):=by
 obtain ⟨i0,hi0,hz0,hz1,hz2⟩:=info_parts Tryz.info5;have qM:q<w.heap.size:=hr.lt;have HR:=aj hr;obtain ⟨ANS,hA⟩:=aC (Tm.dG e lit (l.drop i));rw [←hA];have HA:=aj (show ANS=(Tm.dG e lit (l.drop i)).map (fun r=>([]++r.1,r.2)) by rw [hA];cases Tm.dG e lit (l.drop i) <;> rfl);have ES:=aj (fun (W:World) (j:Nat) (hB:aK q w W) (hr:Pr W q l j) (hj:j≤l.length)=>adP q lit l j W (hE.but hB hq) hq hr ay hj);clear hA hr hE;go_enter func155,ntmps155;go_wp2;go_step3
 go_wp2;go_step3
 go_wp2;go_loopg [8,9,10,11] l.length (fun gk s8 s9 s10 s11 wr=>∃ (out:List UInt8) (j:Nat),j≤l.length∧l.length-j≤gk∧out.length≤4*j∧Hid (Pr wr q l j)∧Hid (aK q w wr)∧Hid (wr.ownsRow w.heap.size 5 1 s8 out.length (out.map fO))∧Hid (ANS=(Tm.dG e lit (l.drop j)).map (fun r=>(out++r.1,r.2))))
 case atStart=>exact ⟨[],i,hi,ay,aH,HR,aK.refl _ _,World.ownsRow_nil _ _ _ _,HA⟩
 case round=>
  obtain ⟨out,j,hj,hg,ho,HT,HB,HO,HP⟩:=hrel;obtain ⟨c0,c1,f0,f1⟩:=HT.out.cells;have ow:=HB.out.size;match hd:l.drop j with
  | []=>
   have hjl:j=l.length:=(by have:=FU l j hd;omega);have HF:=aj (show ANS=none by rw [HP.out,hd];rfl);subst hjl;have hjb:decide ((l.length:Int)<(l.length:Int))=false:=decide_eq_false ay;clear hd HP;go_wp2;(go_quiet (fail));go_wp2;go_ret2
   exact ⟨by rw [HF.out];rfl,⟨l.length,Nat.le_refl _,fun h=>absurd HF.out h,HT.out⟩,HB.out.trans (aK.drawn q wr _)⟩
  | c::u=>
   obtain ⟨hjl,hget,eZ⟩:=oQ l j c u hd;have hcc:=fun q=>nY l j c hget q;have wE:(j:Int)<(l.length:Int):=ay;have hjb:decide ((j:Int)<(l.length:Int))=true:=decide_eq_true wE;have HC:=aj (show Tm.dG e lit (l.drop j)=_ by rw [hd,Tm.P8]);have wF:=aj eZ;have hce:((c.toNat:Int)==(e.toNat:Int))=decide (c=e):=(by rw [Bool.eq_iff_iff,beq_iff_eq,decide_eq_true_iff];exact ⟨fun h=>UInt8.toNat_inj.1 ay,fun h=>by rw [h]⟩);clear hd eZ hget;by_cases h1:c=e
   · have HF:=aj (show ANS=some (out,u) by rw [HP.out,HC.out,if_pos h1];simp);rw [decide_eq_true h1] at hce;have CV:=aj (fun (W:World) (h:W.ownsRow w.heap.size 5 1 u8 out.length (out.map fO))=>Px h rfl);clear h1 HP HC;go_wp2;(go_quiet (fail));obtain ⟨n1,hn1⟩:=aC nq;subst hn1;go_wp2;(go_quiet (fail));have cv:=CV.out ((wr.drewN (n1+nq)).setCell ⟨q,1,none⟩ (.int .i64 ((j:Int)+1))) (Kw HO.out ((aK.drawn q wr (n1+nq)).trans (aK.set q _ 1 (.int .i64 ((j:Int)+1)))) qM);go_wp2;rw [Exit.noGoto_ret];go_ret2
     exact ⟨by rw [HF.out];rfl,⟨j+1,hjl,fun _=>by rw [HF.out];exact wF.out,Pr.to (w:=wr.drewN (n1+nq)) HT.out (j+1)⟩,HB.out.trans ((aK.drawn q wr (n1+nq)).trans (aK.set q _ 1 _))⟩
   rw [decide_eq_false h1] at hce;by_cases h2:c=92
   · have Ky:((c.toNat:Int)==10)=false:=(by rw [h2];rfl);have Sc:((c.toNat:Int)==13)=false:=(by rw [h2];rfl);have adU:((c.toNat:Int)==92)=true:=(by rw [h2];rfl);have wG:=aj (fun (W:World) hB hr=>ES.out W (j+1) hB hr hjl);rw [wF.out] at wG;cases hes:jk lit u with
     | none=>
      have HF:=aj (show ANS=none by rw [HP.out,HC.out,if_neg h1,if_pos h2,Kv,hes];rfl);rw [hes] at wG;have Kz:Hid (∀ W,aK q w W→Pr W q l (j+1)→Calls prog 195 #[bI q,.bool lit] W fun x w'=>x=.returned (.tuple #[.int .i32 0,.bool false])∧(∃ k,k≤l.length∧(∀ p:Nat×Nat,none=some p→k=j+1+p.2)∧Pr w' q l k)∧aK q W w'):=wG;clear h1 h2 HP HC hes wG;go_wp2;(go_quiet (fail));obtain ⟨n1,hn1⟩:=aC nq;subst hn1;go_wp2;(go_quiet (fail));have Sd:=aj (HB.out.trans ((aK.drawn q wr (n1+nq)).trans (aK.set q _ 1 (.int .i64 ((j:Int)+1)))));have Ca:=aj (Pr.to (w:=wr.drewN (n1+nq)) HT.out (j+1));(go_wp2_with fail);refine (Kz.out _ Sd.out Ca.out).mono ?_;rintro x w3 ⟨rfl,⟨k,hk,_,hr3⟩,hb3⟩;have HR3:=aj hr3;have HB3:=aj (Sd.out.trans hb3);clear hr3 hb3;go_wp2;(try rw [Exit.noGoto_ret]);go_ret2
      exact ⟨by rw [HF.out];rfl,⟨k,hk,fun h=>absurd HF.out h,HR3.out⟩,HB3.out⟩
     | some p=>
      obtain ⟨x,n⟩:=p;have hlen:=Tm.Qa (lit:=lit) (s:=u) (x:=Tm.kg x) (n:=n) (by rw [Kv,hes];rfl);obtain ⟨hok,hmx⟩:=adQ hes;have hul:u.length+(j+1)=l.length:=(by rw [←wF.out,List.length_drop];omega);have HF:=aj (show ANS=(Tm.dG e lit (l.drop (j+1+n))).map (fun r=>((out++Tm.kg x)++r.1,r.2)) by rw [HP.out,HC.out,if_neg h1,if_pos h2,Kv,hes];simp only [Option.map_some,Option.map_map];rw [←wF.out,List.drop_drop];congr 1;funext z;simp [Function.comp]);rw [hes] at wG;have Kz:Hid (∀ W,aK q w W→Pr W q l (j+1)→Calls prog 195 #[bI q,.bool lit] W fun y w'=>y=.returned (.tuple #[.int .i32 (x:Nat),.bool true])∧(∃ k,k≤l.length∧(∀ p:Nat×Nat,some (x,n)=some p→k=j+1+p.2)∧Pr w' q l k)∧aK q W w'):=wG;have AR:=aj (fun (W:World) (h:W.ownsRow w.heap.size 5 1 u8 out.length (out.map fO)) (hz:w.heap.size≤W.heap.size)=>Tryz.utf8_AppendRune_plain w.heap.size u8 out.length (out.map fO) (x:Int) ay ay W h ay hz);rw [adR hok,List.length_map,←List.map_append,←List.length_append] at AR;have hol:(out++Tm.kg x).length≤4*(j+1+n):=(by rw [List.length_append];omega);have hjn:j+1+n≤l.length:=ay;obtain ⟨KA,ho2⟩:=aC (out++Tm.kg x);rw [←ho2] at HF AR hol;clear h1 h2 HP HC hes wG hlen ho2;go_wp2;(go_quiet (fail));obtain ⟨n1,hn1⟩:=aC nq;subst hn1;go_wp2;(go_quiet (fail));have pK:=aj ((aK.drawn q wr (n1+nq)).trans (aK.set q _ 1 (.int .i64 ((j:Int)+1))));have Ca:=aj (Pr.to (w:=wr.drewN (n1+nq)) HT.out (j+1));(go_wp2_with fail);refine (Kz.out _ (HB.out.trans pK.out) Ca.out).mono ?_;rintro y w3 ⟨rfl,⟨k,hk,hkp,hr3⟩,hb3⟩;have HR3:=aj hr3;have HB3:=aj (HB.out.trans (pK.out.trans hb3));have lW:=aj (Kw HO.out (pK.out.trans hb3) qM);have hk2:k=j+1+n:=hkp (x,n) rfl;subst hk2;clear hr3 hb3 hkp;(go_wp2_with fail);refine (AR.out _ lW.out HB3.out.size).mono ?_;rintro y w4 ⟨v4,rfl,Cb,o4,hg4⟩;have yM:=aj Cb;have HR4:=aj (HR3.out.grown (Sb hg4) (fun k hk=>by have:=(lW.out.lt k hk).1;omega));have aP:=aj (R_ HB3.out (Sb hg4) (fun k hk=>(lW.out.lt k hk).1));clear Cb hg4;go_wp2;go_roundg (l.length-(j+1+n))
      (case measure=>omega);case rel=>exact ⟨KA,j+1+n,hjn,Nat.le_refl _,hol,HR4,aP,yM,HF⟩
   · have adU:((c.toNat:Int)==92)=false:=beq_eq_false_iff_ne.2 (fun h=>h2 (UInt8.toNat_inj.1 (show c.toNat=(92:UInt8).toNat by show c.toNat=92;omega)));by_cases h3:c=10∨c=13
     · have HF:=aj (show ANS=none by rw [HP.out,HC.out,if_neg h1,if_neg h2,if_pos h3];rfl);rcases h3 with h3 | h3
       · have Ky:((c.toNat:Int)==10)=true:=(by rw [h3];rfl);clear h1 h2 h3 HP HC;go_wp2;(go_quiet (fail));obtain ⟨n1,hn1⟩:=aC nq;subst hn1;go_wp2;(go_quiet (fail));go_wp2;(try rw [Exit.noGoto_ret]);go_ret2
         exact ⟨by rw [HF.out];rfl,⟨j+1,hjl,fun h=>absurd HF.out h,Pr.to (w:=wr.drewN (n1+nq)) HT.out (j+1)⟩,HB.out.trans ((aK.drawn q wr (n1+nq)).trans (aK.set q _ 1 _))⟩
       · have Ky:((c.toNat:Int)==10)=false:=(by rw [h3];rfl);have Sc:((c.toNat:Int)==13)=true:=(by rw [h3];rfl);clear h1 h2 h3 HP HC;go_wp2;(go_quiet (fail));obtain ⟨n1,hn1⟩:=aC nq;subst hn1;go_wp2;(go_quiet (fail));go_wp2;(try rw [Exit.noGoto_ret]);go_ret2
         exact ⟨by rw [HF.out];rfl,⟨j+1,hjl,fun h=>absurd HF.out h,Pr.to (w:=wr.drewN (n1+nq)) HT.out (j+1)⟩,HB.out.trans ((aK.drawn q wr (n1+nq)).trans (aK.set q _ 1 _))⟩
     · have Ky:((c.toNat:Int)==10)=false:=beq_eq_false_iff_ne.2 (fun h=>h3 (.inl (UInt8.toNat_inj.1 (show c.toNat=(10:UInt8).toNat by show c.toNat=10;omega))));have Sc:((c.toNat:Int)==13)=false:=beq_eq_false_iff_ne.2 (fun h=>h3 (.inr (UInt8.toNat_inj.1 (show c.toNat=(13:UInt8).toNat by show c.toNat=13;omega))));have HF:=aj (show ANS=(Tm.dG e lit (l.drop (j+1))).map (fun r=>((out++[c])++r.1,r.2)) by rw [HP.out,HC.out,if_neg h1,if_neg h2,if_neg h3,wF.out];simp only [Option.map_map];congr 1;funext z;simp [Function.comp]);have hol:(out++[c]).length≤4*(j+1):=(by rw [List.length_append];simp;omega);have Sg:(out++[c]).length=out.length+1:=aH;have hmp:(out++[c]).map fO=out.map fO++[fO c]:=aH;obtain ⟨KA,ho2⟩:=aC (out++[c]);rw [←ho2] at HF hol Sg hmp;clear h1 h2 h3 HP HC ho2;go_wp2;(go_quiet (fail));obtain ⟨n1,hn1⟩:=aC nq;subst hn1;go_wp2;(go_quiet (fail));have pK:=aj ((aK.drawn q wr (n1+nq)).trans (aK.set q _ 1 (.int .i64 ((j:Int)+1))));have Ca:=aj (Pr.to (w:=wr.drewN (n1+nq)) HT.out (j+1));have lW:=aj (Kw HO.out pK.out qM);have HB3:=aj (HB.out.trans pK.out);(go_wp2_with (at_builtin;refine ZM rfl (.tmp 60) (.tmp 62) 71 rfl w.heap.size 5 i0 _ 1 underlying71 hi0 hz0 hz1 hz2 rfl u8 _ _ [fO c] 1 (by rfl) ((wr.drewN (n1+nq)).setCell ⟨q,1,none⟩ (.int .i64 ((j:Int)+1))) rfl rfl lW.out wr.heap.size ?hh rfl ?one ?b1 ?b2 ?base ?_));(case hh=>simp);(case one=>intro u hu;simp at hu;rw [hu];rfl);(case b1=>unfold maxLen;omega);(case b2=>omega);(case base=>exact HB3.out.size);intro v4 w4 Cb hg4 _;have yM:=aj Cb;rw [←Sg,←hmp] at yM;have HR4:=aj (Ca.out.grown hg4 (fun k hk=>by have:=(lW.out.lt k hk).1;omega));have aP:=aj (R_ HB3.out hg4 (fun k hk=>(lW.out.lt k hk).1));clear Cb hg4;go_wp2;go_roundg (l.length-(j+1))
       (case measure=>omega);case rel=>exact ⟨KA,j+1,hjl,Nat.le_refl _,hol,HR4,aP,yM,HF⟩
theorem pV {fn:Func} {tmps:Array Value} {Z:World} {b:Nat} {v0 v1 v2 v3:Value} (ht:tmps.getD 2 undef=.pointer (some ⟨b,0,none⟩)) (h3:tmps.getD 3 undef=v3) (hZ:aB Z b [v0,v1,v2] 63) (hf:fn.results=#[.cell 2 63,.tmp 3]) :
  (results fn tmps).run prog Z=.ok (.tuple #[.agg #[v0,v1,v2],v3]) Z:=by
 obtain ⟨h0,h1,h2⟩:=bO hZ;have ht':tmps[2]?.getD undef=.pointer (some ⟨b,0,none⟩):=by simpa using ht
 have h3':tmps[3]?.getD undef=v3:=by simpa using h3
 simp [results,hf,ht',h3',go_sem,h0,h1,h2]
theorem pW {w X:World} {q b j:Nat} {x y z v0 v1 v2:Value} {l:List UInt8} {t:TypeId} (hT:aB X b [x,y,z] t) (hq:Pr X q l j) (hne:b≠q) (hB:aK q w X) (hb:w.heap.size≤b) :
  aB (((X.setCell ⟨b,0,none⟩ v0).setCell ⟨b,1,none⟩ v1).setCell ⟨b,2,none⟩ v2) b [v0,v1,v2] t∧Pr (((X.setCell ⟨b,0,none⟩ v0).setCell ⟨b,1,none⟩ v1).setCell ⟨b,2,none⟩ v2) q l j∧aK q w (((X.setCell ⟨b,0,none⟩ v0).setCell ⟨b,1,none⟩ v1).setCell ⟨b,2,none⟩ v2):=by refine ⟨((hT.set 0 v0).set 1 v1).set 2 v2,aB.other (aB.other (aB.other hq (Ne.symm hne) 0 v0) (Ne.symm hne) 1 v1) (Ne.symm hne) 2 v2,?_⟩;have st:∀ (X:World) (i:Nat) (v:Value),aK q w X→aK q w (X.setCell ⟨b,i,none⟩ v):=fun X i v h=>⟨h.os,h.tape,h.output,by have:=h.size;simpa using this,fun k hk hn=>by rw [Below.heap_setCell _ _ _ _ (by show k≠b;omega)];exact h.block k hk hn⟩;exact st _ _ _ (st _ _ _ (st _ _ _ hB))
def nQ (q:Nat) (l:List UInt8) (w:World) (r:Option (Nat×List UInt8×List UInt8×List UInt8)) (e:Ending) (w':World):Prop:=
 aK q w w'∧match r with
  | none=>(∃ (k:Nat) (t x:List UInt8),e=.returned (.tuple #[dV (k:Nat) t x,.bool false]))∧∃ j,j≤l.length∧Pr w' q l j
  | some (k,t,x,v)=>e=.returned (.tuple #[dV (k:Nat) t x,.bool true])∧∃ j,j≤l.length∧l.drop j=v∧Pr w' q l j
theorem adV (q:Nat) (l:List UInt8) (i:Nat) (w:World) (hE:cu w) (hq:q≠4) (hr:Pr w q l i) (hl:l.length≤10000000) (hi:i≤l.length) (h:Tm.dG 34 true (l.drop i)=none) :
  Calls prog 158 #[bI q] w (nQ q l w (Tm.gy (l.drop i))):=by
 have HN:=aj (show Tm.gy (l.drop i)=none by unfold Tm.gy;rw [h]);rw [HN.out];have hlt:=hr.lt;have UP:=aj (fun (W:World) (hB:aK q w W) (hr:Pr W q l i)=>sj q l i 34 true W (hE.but hB hq) hq hr hl hi aL aL);rw [h] at UP;have su:Hid (∀ W,aK q w W→Pr W q l i→Calls prog 155 #[bI q,.int .u8 34,.bool true] W fun x w'=>x=.returned (.tuple #[aA [],.bool false])∧(∃ j,j≤l.length∧((none:Option (List UInt8×List UInt8))≠none→l.drop j=[])∧Pr w' q l j)∧aK q W w'):=UP;have HR1:=aj (hr.keep ((Below.refl _ _).alloc aG (.cells #[.int .i64 0,.string ⟨#[]⟩,.string ⟨#[]⟩] 63)));clear UP h hr hE;go_enter func158,ntmps158;have HB1:=aj (show aK q w (w.alloc (.cells #[.int .i64 0,.string ⟨#[]⟩,.string ⟨#[]⟩] 63)) from aK.below ((Below.refl w.heap.size w).alloc aG _));have HT1:=aj (aB.new w [.int .i64 0,aA [],aA []] 63);go_wp2_with fail
 refine (su.out _ HB1.out HR1.out).mono ?_;rintro x w2 ⟨rfl,⟨j,hj,_,hr2⟩,hb2⟩;have HT2:=aj (aK.blk HT1.out hb2 ay);have HB2:=aj (HB1.out.trans hb2);have HR2:=aj hr2;clear hr2 hb2;obtain ⟨g0,g1,g2⟩:=bO HT2.out;obtain ⟨k0,k1,k2⟩:=jc HT2.out;go_wp2;have HX:=pW (hT:=HT2.out) (v0:=.int .i64 0) (v1:=.string ⟨([]:List UInt8).toArray⟩) (v2:=.string ⟨([]:List UInt8).toArray⟩) (hq:=HR2.out) (hne:=ay) (hB:=HB2.out) (hb:=Nat.le_refl _);obtain ⟨hx1,hx2,hx3⟩:=HX;exact bodyPost_ret (v:=.tuple #[dV (0:Nat) [] [],.bool false]) (pV rfl rfl hx1 results158) rfl ⟨hx3,⟨0,[],[],rfl⟩,j,hj,hx2⟩
theorem adW:∀ k:Fin 256,Lib.lowerB (UInt8.ofNat k.val)=Tm.lower (UInt8.ofNat k.val):=aL
theorem adX (b:UInt8):Lib.lowerB b=Tm.lower b:=by have h:=adW ⟨b.toNat,b.toNat_lt⟩;simpa using h
theorem adY {c:UInt8} (h:Tm.f_ c=true):c.toNat<128:=by unfold Tm.f_ Tm.eu Tm.small Tm.digit at h;simp only [Bool.or_eq_true,Bool.and_eq_true,decide_eq_true_eq,beq_iff_eq] at h;rcases h with h | h;{omega};{rw [h];decide}
theorem adZ (n:List UInt8) (w:World) (hn:n.length≤1000000000) (h:∀ c∈n,Tm.f_ c=true):Calls prog 197 #[aA n] w fun e w'=>e=.returned (aA (n.map Tm.lower))∧Below w.heap.size w w':=by
 have:=Tryz.strings_ToLower_ascii ⟨n.toArray⟩ w (by simp [ByteArray.size];omega) (fun j b hb=>adY (h b (List.mem_of_getElem? (by simpa using hb))));have e:Lib.toLowerA (⟨n.toArray⟩:ByteArray).data.toList=n.map Tm.lower:=by unfold Lib.toLowerA;exact List.map_congr_left fun c _=>adX c
 rw [e] at this;exact this
theorem Si {v:List UInt8} {c:UInt8} (h:v.headD 0=c) (hc:c≠0):v.take 1=[c]:=by
 cases v with
 | nil=>exact absurd h.symm hc
 | cons d u=>simp only [List.headD_cons] at h;rw [h];rfl
theorem KC {v:List UInt8} {c:UInt8} (h:v.headD 0≠c):v.take 1≠[c]:=by
 cases v with
 | nil=>simp
 | cons d u=>simp only [List.headD_cons] at h;simpa using h
theorem Sj {p:UInt8→Bool}:∀ {l:List UInt8} {c:UInt8},c∈l.takeWhile p→p c=true
 | d::l,c,h=>by
  rw [List.takeWhile_cons] at h
  split at h
  · rcases List.mem_cons.1 h with rfl | h
    · assumption
    · exact Sj h
  · cases h
theorem ad1 (q:Nat) (l:List UInt8) (i:Nat) (w:World) (t v:List UInt8) (hE:cu w) (hq:q≠4) (hr:Pr w q l i) (hl:l.length≤10000000) (hi:i≤l.length) (h:Tm.dG 34 true (l.drop i)=some (t,v)) (h1:v.headD 0≠64) (h2:v.take 3≠[94,94,60]) :
  Calls prog 158 #[bI q] w (nQ q l w (Tm.gy (l.drop i))):=by
 have HN:=aj (show Tm.gy (l.drop i)=some (3,t,[],v) by unfold Tm.gy;rw [h];simp only;rw [if_neg h1,if_neg h2]);rw [HN.out];have hlt:=hr.lt;have hvl:=Tm.rM _ aG h;have HE:=aj (fun W hB=>hE.but (w':=W) hB hq);have UP:=aj (fun (W:World) (hB:aK q w W) (hr:Pr W q l i)=>sj q l i 34 true W (HE.out W hB) hq hr hl hi aL aL);rw [h] at UP;have su:Hid (∀ W,aK q w W→Pr W q l i→Calls prog 155 #[bI q,.int .u8 34,.bool true] W fun x w'=>x=.returned (.tuple #[aA t,.bool true])∧(∃ j,j≤l.length∧(some (t,v)≠none→l.drop j=v)∧Pr w' q l j)∧aK q W w'):=UP;have HR1:=aj (hr.keep ((Below.refl _ _).alloc aG (.cells #[.int .i64 0,.string ⟨#[]⟩,.string ⟨#[]⟩] 63)));have S1:=aj (fun (W:World) (j:Nat) (hd:l.drop j=v) (hj:j≤l.length) (hr:Pr W q l j)=>jD q l [64] j W hr ay hj aL (by rw [hd];exact KC h1));have S2:=aj (fun (W:World) (j:Nat) (hd:l.drop j=v) (hj:j≤l.length) (hr:Pr W q l j)=>jD q l [94,94,60] j W hr ay hj aL (by rw [hd];exact h2));clear UP h hr hE h1 h2;go_enter func158,ntmps158;have HB1:=aj (show aK q w (w.alloc (.cells #[.int .i64 0,.string ⟨#[]⟩,.string ⟨#[]⟩] 63)) from aK.below ((Below.refl w.heap.size w).alloc aG _));have HT1:=aj (aB.new w [.int .i64 0,aA [],aA []] 63);go_wp2_with fail
 refine (su.out _ HB1.out HR1.out).mono ?_;rintro x w2 ⟨rfl,⟨j,hj,hjd,hr2⟩,hb2⟩;have HT2:=aj (aK.blk HT1.out hb2 ay);have HB2:=aj (HB1.out.trans hb2);have HR2:=aj hr2;have HD2:=aj (hjd aH);clear hr2 hb2 hjd;go_wp2_with fail
 refine (S1.out _ j HD2.out hj HR2.out).mono ?_;rintro x w3 ⟨rfl,hr3,hb3⟩;have HT3:=aj (aK.blk HT2.out hb3 ay);have HB3:=aj (HB2.out.trans hb3);have HR3:=aj hr3;clear hr3 hb3;go_wp2_with fail
 refine (S2.out _ j HD2.out hj HR3.out).mono ?_;rintro x w4 ⟨rfl,hr4,hb4⟩;have cB:=aj (aK.blk HT3.out hb4 ay);have aP:=aj (HB3.out.trans hb4);have HR4:=aj hr4;clear hr4 hb4;obtain ⟨g0,g1,g2⟩:=bO cB.out;obtain ⟨k0,k1,k2⟩:=jc cB.out;go_wp2;have HX:=pW (hT:=cB.out) (v0:=.int .i64 3) (v1:=.string ⟨(t:List UInt8).toArray⟩) (v2:=.string ⟨([]:List UInt8).toArray⟩) (hq:=HR4.out) (hne:=ay) (hB:=aP.out) (hb:=Nat.le_refl _);obtain ⟨hx1,hx2,hx3⟩:=HX;exact bodyPost_ret (v:=.tuple #[dV (3:Nat) (t) ([]),.bool true]) (pV rfl rfl hx1 results158) rfl ⟨hx3,rfl,j,hj,HD2.out,hx2⟩
theorem ad2 (q:Nat) (l:List UInt8) (i:Nat) (w:World) (t v:List UInt8) (hE:cu w) (hq:q≠4) (hr:Pr w q l i) (hl:l.length≤10000000) (hi:i≤l.length) (h:Tm.dG 34 true (l.drop i)=some (t,v)) (h1:v.headD 0=64) :
  Calls prog 158 #[bI q] w (nQ q l w (Tm.gy (l.drop i))):=by
 have HN:=aj (show Tm.gy (l.drop i)=some (4,t,(v.tail.takeWhile Tm.f_).map Tm.lower,v.tail.dropWhile Tm.f_) by unfold Tm.gy;rw [h];simp only;rw [if_pos h1]);rw [HN.out];have hlt:=hr.lt;have hvl:=Tm.rM _ aG h;have HE:=aj (fun W hB=>hE.but (w':=W) hB hq);have UP:=aj (fun (W:World) (hB:aK q w W) (hr:Pr W q l i)=>sj q l i 34 true W (HE.out W hB) hq hr hl hi aL aL);rw [h] at UP;have su:Hid (∀ W,aK q w W→Pr W q l i→Calls prog 155 #[bI q,.int .u8 34,.bool true] W fun x w'=>x=.returned (.tuple #[aA t,.bool true])∧(∃ j,j≤l.length∧(some (t,v)≠none→l.drop j=v)∧Pr w' q l j)∧aK q W w'):=UP;have HR1:=aj (hr.keep ((Below.refl _ _).alloc aG (.cells #[.int .i64 0,.string ⟨#[]⟩,.string ⟨#[]⟩] 63)));have hdt:∀ j,l.drop j=v→l.drop (j+1)=v.tail∧j+1≤l.length:=by intro j hd;have h2:=Si h1 aL;obtain ⟨u,hu⟩:=take_one h2;rw [hu] at hd ⊢;obtain ⟨a,_,b⟩:=oQ l j 64 u hd;exact ⟨b,a⟩
 have S1:=aj (fun (W:World) (j:Nat) (hd:l.drop j=v) (hj:j≤l.length) (hr:Pr W q l j)=>pU q l [64] j W hr ay hj aL (by rw [hd];exact Si h1 aL));obtain ⟨nm,hnm⟩:=aC (v.tail.takeWhile Tm.f_);have NM:Hid (∀ (W:World) (j:Nat),l.drop j=v.tail→j≤l.length→Pr W q l j→Calls prog 156 #[bI q,.func (.func 198) #[] #[]] W fun x w'=>x=.returned (aA nm)∧(∃ k,k≤l.length∧l.drop k=v.tail.dropWhile Tm.f_∧Pr w' q l k)∧aK q W w'):=by intro W j hd hj hr;have:=R3 198 q Tm.f_ l j W (enters_of func198 aF rfl) (fun c W=>adx c W) hr ay hj;rw [hd,←hnm] at this;exact this
 have hnl:nm.length≤1000000000:=by have:=Jc Tm.f_ v.tail;rw [←hnm,List.length_tail] at this;have:=List.length_drop (i:=i) (l:=l);omega
 have LW:=aj (fun W=>adZ nm W hnl (fun c hc=>by rw [hnm] at hc;exact Sj hc));rw [←hnm];have HDT:=aj hdt;clear UP h hr hE h1 hdt hnm;go_enter func158,ntmps158;have HB1:=aj (show aK q w (w.alloc (.cells #[.int .i64 0,.string ⟨#[]⟩,.string ⟨#[]⟩] 63)) from aK.below ((Below.refl w.heap.size w).alloc aG _));have HT1:=aj (aB.new w [.int .i64 0,aA [],aA []] 63);go_wp2_with fail
 refine (su.out _ HB1.out HR1.out).mono ?_;rintro x w2 ⟨rfl,⟨j,hj,hjd,hr2⟩,hb2⟩;have HT2:=aj (aK.blk HT1.out hb2 ay);have HB2:=aj (HB1.out.trans hb2);have HR2:=aj hr2;have HD2:=aj (hjd aH);clear hr2 hb2 hjd;have uJ:=aj (HDT.out j HD2.out);go_wp2_with fail
 refine (S1.out _ j HD2.out hj HR2.out).mono ?_;rintro x w3 ⟨rfl,hr3,hb3⟩;have HT3:=aj (aK.blk HT2.out hb3 ay);have HB3:=aj (HB2.out.trans hb3);have HR3:=aj hr3;clear hr3 hb3;go_wp2_with fail
 refine (NM.out _ (j+1) uJ.out.1 uJ.out.2 HR3.out).mono ?_;rintro x w4 ⟨rfl,⟨k,hk,hkd,hr4⟩,hb4⟩;have cB:=aj (aK.blk HT3.out hb4 ay);have aP:=aj (HB3.out.trans hb4);have HR4:=aj hr4;have HK:=aj hkd;clear hr4 hb4 hkd;go_wp2_with fail
 refine (LW.out _).mono ?_;rintro x w5 ⟨rfl,hb5⟩;have dM:=aj (cB.out.keep hb5);have aQ:=aj (aP.out.trans (aK.below hb5));have bU:=aj (HR4.out.keep hb5);clear hb5;obtain ⟨g0,g1,g2⟩:=bO dM.out;obtain ⟨k0,k1,k2⟩:=jc dM.out;go_wp2;have HX:=pW (hT:=dM.out) (v0:=.int .i64 4) (v1:=.string ⟨(t:List UInt8).toArray⟩) (v2:=.string ⟨(nm.map Tm.lower:List UInt8).toArray⟩) (hq:=bU.out) (hne:=ay) (hB:=aQ.out) (hb:=Nat.le_refl _);obtain ⟨hx1,hx2,hx3⟩:=HX;exact bodyPost_ret (v:=.tuple #[dV (4:Nat) (t) (nm.map Tm.lower),.bool true]) (pV rfl rfl hx1 results158) rfl ⟨hx3,rfl,k,hk,HK.out,hx2⟩
theorem ad3 (q:Nat) (l:List UInt8) (i:Nat) (w:World) (t v:List UInt8) (hE:cu w) (hq:q≠4) (hr:Pr w q l i) (hl:l.length≤10000000) (hi:i≤l.length) (h:Tm.dG 34 true (l.drop i)=some (t,v)) (y z:List UInt8) (h1:v.headD 0≠64) (h2:v.take 3=[94,94,60]) (h3:Tm.dG 62 false (v.drop 3)=some (y,z)) :
  Calls prog 158 #[bI q] w (nQ q l w (Tm.gy (l.drop i))):=by
 have HN:=aj (show Tm.gy (l.drop i)=some (5,t,y,z) by unfold Tm.gy;rw [h];simp only;rw [if_neg h1,if_pos h2,h3];rfl);rw [HN.out];have hlt:=hr.lt;have hvl:=Tm.rM _ aG h;have HE:=aj (fun W hB=>hE.but (w':=W) hB hq);have UP:=aj (fun (W:World) (hB:aK q w W) (hr:Pr W q l i)=>sj q l i 34 true W (HE.out W hB) hq hr hl hi aL aL);rw [h] at UP;have su:Hid (∀ W,aK q w W→Pr W q l i→Calls prog 155 #[bI q,.int .u8 34,.bool true] W fun x w'=>x=.returned (.tuple #[aA t,.bool true])∧(∃ j,j≤l.length∧(some (t,v)≠none→l.drop j=v)∧Pr w' q l j)∧aK q W w'):=UP;have HR1:=aj (hr.keep ((Below.refl _ _).alloc aG (.cells #[.int .i64 0,.string ⟨#[]⟩,.string ⟨#[]⟩] 63)));have S1:=aj (fun (W:World) (j:Nat) (hd:l.drop j=v) (hj:j≤l.length) (hr:Pr W q l j)=>jD q l [64] j W hr ay hj aL (by rw [hd];exact KC h1));have hd3:∀ j,l.drop j=v→l.drop (j+3)=v.drop 3∧j+3≤l.length:=by intro j hd;have e:=congrArg List.length h2;rw [List.length_take] at e;have e2:=congrArg List.length hd;rw [List.length_drop] at e2;simp only [List.length_cons,List.length_nil] at e;exact ⟨by rw [←hd,List.drop_drop],ay⟩
 have S2:=aj (fun (W:World) (j:Nat) (hd:l.drop j=v) (hj:j≤l.length) (hr:Pr W q l j)=>pU q l [94,94,60] j W hr ay hj aL (by rw [hd];exact h2));have U2:Hid (∀ (W:World) (j:Nat),l.drop j=v.drop 3→j≤l.length→aK q w W→Pr W q l j→Calls prog 155 #[bI q,.int .u8 62,.bool false] W fun x w'=>x=.returned (.tuple #[aA y,.bool true])∧(∃ k,k≤l.length∧(some (y,z)≠none→l.drop k=z)∧Pr w' q l k)∧aK q W w'):=by intro W j hd hj hB hr;have:=sj q l j 62 false W (HE.out W hB) hq hr hl hj aL aL;rw [hd,h3] at this;exact this
 have HD3:=aj hd3;clear UP h hr hE h1 h2 h3 hd3;go_enter func158,ntmps158;have HB1:=aj (show aK q w (w.alloc (.cells #[.int .i64 0,.string ⟨#[]⟩,.string ⟨#[]⟩] 63)) from aK.below ((Below.refl w.heap.size w).alloc aG _));have HT1:=aj (aB.new w [.int .i64 0,aA [],aA []] 63);go_wp2_with fail
 refine (su.out _ HB1.out HR1.out).mono ?_;rintro x w2 ⟨rfl,⟨j,hj,hjd,hr2⟩,hb2⟩;have HT2:=aj (aK.blk HT1.out hb2 ay);have HB2:=aj (HB1.out.trans hb2);have HR2:=aj hr2;have HD2:=aj (hjd aH);clear hr2 hb2 hjd;have uJ:=aj (HD3.out j HD2.out);go_wp2_with fail
 refine (S1.out _ j HD2.out hj HR2.out).mono ?_;rintro x w3 ⟨rfl,hr3,hb3⟩;have HT3:=aj (aK.blk HT2.out hb3 ay);have HB3:=aj (HB2.out.trans hb3);have HR3:=aj hr3;clear hr3 hb3;go_wp2_with fail
 refine (S2.out _ j HD2.out hj HR3.out).mono ?_;rintro x w4 ⟨rfl,hr4,hb4⟩;have cB:=aj (aK.blk HT3.out hb4 ay);have aP:=aj (HB3.out.trans hb4);have HR4:=aj hr4;clear hr4 hb4;go_wp2_with fail
 refine (U2.out _ (j+3) uJ.out.1 uJ.out.2 aP.out HR4.out).mono ?_;rintro x w5 ⟨rfl,⟨k,hk,hkd,pX⟩,hb5⟩;have dM:=aj (aK.blk cB.out hb5 ay);have aQ:=aj (aP.out.trans hb5);have bU:=aj pX;have HK:=aj hkd;clear pX hb5 hkd;obtain ⟨g0,g1,g2⟩:=bO dM.out;obtain ⟨k0,k1,k2⟩:=jc dM.out;go_wp2;have HX:=pW (hT:=dM.out) (v0:=.int .i64 5) (v1:=.string ⟨(t:List UInt8).toArray⟩) (v2:=.string ⟨(y:List UInt8).toArray⟩) (hq:=bU.out) (hne:=ay) (hB:=aQ.out) (hb:=Nat.le_refl _);obtain ⟨hx1,hx2,hx3⟩:=HX;exact bodyPost_ret (v:=.tuple #[dV (5:Nat) (t) (y),.bool true]) (pV rfl rfl hx1 results158) rfl ⟨hx3,rfl,k,hk,HK.out aH,hx2⟩
theorem ad4 (q:Nat) (l:List UInt8) (i:Nat) (w:World) (t v:List UInt8) (hE:cu w) (hq:q≠4) (hr:Pr w q l i) (hl:l.length≤10000000) (hi:i≤l.length) (h:Tm.dG 34 true (l.drop i)=some (t,v)) (h1:v.headD 0≠64) (h2:v.take 3=[94,94,60]) (h3:Tm.dG 62 false (v.drop 3)=none) :
  Calls prog 158 #[bI q] w (nQ q l w (Tm.gy (l.drop i))):=by
 have HN:=aj (show Tm.gy (l.drop i)=none by unfold Tm.gy;rw [h];simp only;rw [if_neg h1,if_pos h2,h3];rfl);rw [HN.out];have hlt:=hr.lt;have hvl:=Tm.rM _ aG h;have HE:=aj (fun W hB=>hE.but (w':=W) hB hq);have UP:=aj (fun (W:World) (hB:aK q w W) (hr:Pr W q l i)=>sj q l i 34 true W (HE.out W hB) hq hr hl hi aL aL);rw [h] at UP;have su:Hid (∀ W,aK q w W→Pr W q l i→Calls prog 155 #[bI q,.int .u8 34,.bool true] W fun x w'=>x=.returned (.tuple #[aA t,.bool true])∧(∃ j,j≤l.length∧(some (t,v)≠none→l.drop j=v)∧Pr w' q l j)∧aK q W w'):=UP;have HR1:=aj (hr.keep ((Below.refl _ _).alloc aG (.cells #[.int .i64 0,.string ⟨#[]⟩,.string ⟨#[]⟩] 63)));have S1:=aj (fun (W:World) (j:Nat) (hd:l.drop j=v) (hj:j≤l.length) (hr:Pr W q l j)=>jD q l [64] j W hr ay hj aL (by rw [hd];exact KC h1));have hd3:∀ j,l.drop j=v→l.drop (j+3)=v.drop 3∧j+3≤l.length:=by intro j hd;have e:=congrArg List.length h2;rw [List.length_take] at e;have e2:=congrArg List.length hd;rw [List.length_drop] at e2;simp only [List.length_cons,List.length_nil] at e;exact ⟨by rw [←hd,List.drop_drop],ay⟩
 have S2:=aj (fun (W:World) (j:Nat) (hd:l.drop j=v) (hj:j≤l.length) (hr:Pr W q l j)=>pU q l [94,94,60] j W hr ay hj aL (by rw [hd];exact h2));have U2:Hid (∀ (W:World) (j:Nat),l.drop j=v.drop 3→j≤l.length→aK q w W→Pr W q l j→Calls prog 155 #[bI q,.int .u8 62,.bool false] W fun x w'=>x=.returned (.tuple #[aA [],.bool false])∧(∃ k,k≤l.length∧((none:Option (List UInt8×List UInt8))≠none→l.drop k=[])∧Pr w' q l k)∧aK q W w'):=by intro W j hd hj hB hr;have:=sj q l j 62 false W (HE.out W hB) hq hr hl hj aL aL;rw [hd,h3] at this;exact this
 have HD3:=aj hd3;clear UP h hr hE h1 h2 h3 hd3;go_enter func158,ntmps158;have HB1:=aj (show aK q w (w.alloc (.cells #[.int .i64 0,.string ⟨#[]⟩,.string ⟨#[]⟩] 63)) from aK.below ((Below.refl w.heap.size w).alloc aG _));have HT1:=aj (aB.new w [.int .i64 0,aA [],aA []] 63);go_wp2_with fail
 refine (su.out _ HB1.out HR1.out).mono ?_;rintro x w2 ⟨rfl,⟨j,hj,hjd,hr2⟩,hb2⟩;have HT2:=aj (aK.blk HT1.out hb2 ay);have HB2:=aj (HB1.out.trans hb2);have HR2:=aj hr2;have HD2:=aj (hjd aH);clear hr2 hb2 hjd;have uJ:=aj (HD3.out j HD2.out);go_wp2_with fail
 refine (S1.out _ j HD2.out hj HR2.out).mono ?_;rintro x w3 ⟨rfl,hr3,hb3⟩;have HT3:=aj (aK.blk HT2.out hb3 ay);have HB3:=aj (HB2.out.trans hb3);have HR3:=aj hr3;clear hr3 hb3;go_wp2_with fail
 refine (S2.out _ j HD2.out hj HR3.out).mono ?_;rintro x w4 ⟨rfl,hr4,hb4⟩;have cB:=aj (aK.blk HT3.out hb4 ay);have aP:=aj (HB3.out.trans hb4);have HR4:=aj hr4;clear hr4 hb4;go_wp2_with fail
 refine (U2.out _ (j+3) uJ.out.1 uJ.out.2 aP.out HR4.out).mono ?_;rintro x w5 ⟨rfl,⟨k,hk,hkd,pX⟩,hb5⟩;have dM:=aj (aK.blk cB.out hb5 ay);have aQ:=aj (aP.out.trans hb5);have bU:=aj pX;have HK:=aj hkd;clear pX hb5 hkd;obtain ⟨g0,g1,g2⟩:=bO dM.out;obtain ⟨k0,k1,k2⟩:=jc dM.out;go_wp2;have HX:=pW (hT:=dM.out) (v0:=.int .i64 5) (v1:=.string ⟨(t:List UInt8).toArray⟩) (v2:=.string ⟨([]:List UInt8).toArray⟩) (hq:=bU.out) (hne:=ay) (hB:=aQ.out) (hb:=Nat.le_refl _);obtain ⟨hx1,hx2,hx3⟩:=HX;exact bodyPost_ret (v:=.tuple #[dV (5:Nat) (t) ([]),.bool false]) (pV rfl rfl hx1 results158) rfl ⟨hx3,⟨5,t,[],rfl⟩,k,hk,hx2⟩
theorem Sk (q:Nat) (l:List UInt8) (i:Nat) (w:World) (hE:cu w) (hq:q≠4) (hr:Pr w q l i) (hl:l.length≤10000000) (hi:i≤l.length) :
  Calls prog 158 #[bI q] w (nQ q l w (Tm.gy (l.drop i))):=by
 cases h:Tm.dG 34 true (l.drop i) with
 | none=>exact adV q l i w hE hq hr hl hi h
 | some p=>
  obtain ⟨t,v⟩:=p;by_cases h1:v.headD 0=64;{exact ad2 q l i w t v hE hq hr hl hi h h1}
  · by_cases h2:v.take 3=[94,94,60]
    · cases h3:Tm.dG 62 false (v.drop 3) with
      | none=>exact ad4 q l i w t v hE hq hr hl hi h h1 h2 h3
      | some p=>obtain ⟨y,z⟩:=p;exact ad3 q l i w t v hE hq hr hl hi h y z h1 h2 h3
    {exact ad1 q l i w t v hE hq hr hl hi h h1 h2}
end Go.Proofs.YtockbaekcbeenaaGreatDoor
