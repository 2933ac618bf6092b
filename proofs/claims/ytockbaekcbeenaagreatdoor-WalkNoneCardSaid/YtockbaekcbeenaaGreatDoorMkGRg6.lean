/-GRg6-/
import Derived.Test.YtockbaekcbeenaaGreatDoorMkHd1
import Derived.Test.YtockbaekcbeenaaGreatDoorMkGRg4
import Derived.Test.YtockbaekcbeenaaGreatDoorMkGRg5
set_option linter.unusedVariables false
set_option linter.unusedSimpArgs false
set_option maxRecDepth 100000
set_option maxHeartbeats 1000000
namespace Go.Proofs.YtockbaekcbeenaaGreatDoor
open Go.Proofs.Tryz
open Go.ChangeShapes Go.WideShapes Go.ChangeAt Go.RowKit
open Go.Sort
theorem Tryz.rainfo68:(prog.info? 68).map (fun i=>(i.zero,i.size,i.bytes))=some (some (.agg #[.int .i64 0,.int .i64 0,.int .i64 0]),3,24):=aF
theorem F8:fl []=[]:=by simp [fl,flatK]
theorem F9 (l:List Rg.T) (t:Rg.T):fl (l++[t])=fl l++tl t:=by apply List.ext_getElem?;intro j;by_cases hj:j<(l.length+1)*3;{obtain ⟨u,hu⟩:∃ u,(fl (l++[t]))[j]?=some u:=⟨_,List.getElem?_eq_getElem (by rw [qK,List.length_append];exact hj)⟩;obtain ⟨h1,rfl⟩:=AY hu;rw [hu];have hm:j % 3<3:=Nat.mod_lt _ aL;by_cases hl:j<l.length*3;{rw [List.getElem?_append_left (by rw [qK];exact hl)];have:=abw l (j / 3) (j % 3) ay hm;rw [show j / 3*3+j % 3=j by omega] at this;rw [this,List.getElem_append_left ay]};{rw [List.getElem?_append_right (by rw [qK];omega),qK];have e:j-l.length*3=j % 3:=ay;rw [e,pI t _ hm,List.getElem_append_right ay];simp}};{rw [List.getElem?_eq_none (by rw [qK,List.length_append];simp;omega),List.getElem?_eq_none (by rw [List.length_append,qK];simp [tl];omega)]}
def ng (B:Nat) (W:World) (v:Value) (L:List Rg.T):Prop:=∃ a cap,v=.slice a L.length cap∧gW W v L∧(L.length=0∨∃ g,a=some ⟨g,0,none⟩∧B≤g∧g<W.heap.size∧HoldsK tl 3 W g 0 L.toArray)
theorem ng.at {B:Nat} {W:World} {v:Value} {L:List Rg.T} (h:ng B W v L):gW W v L:=by obtain ⟨a,cap,rfl,h,_⟩:=h;exact h
theorem SX {W:World} {base n:Nat} {v:Value} {L:List Rg.T} (h:W.ownsRow base 68 3 v n (fl L)) (hn:n=L.length):ng base W v L:=by subst hn;have hO:=h;rcases h.2 with ⟨rfl,h0⟩ | ⟨g,cp,cur,rfl,hg,hh,hcp,hcm,_⟩;{have h1:L=[]:=List.eq_nil_of_length_eq_zero h0;subst h1;exact ⟨none,0,rfl,gW.nil W,Or.inl rfl⟩};{exact ⟨_,cp,rfl,QK (EX hO) hcp hcm,Or.inr ⟨g,rfl,hg,(hO.lt g rfl).2,EX hO⟩⟩}
theorem aeM {l:List Rg.T} (hl:l.Pairwise Rg.lt) (hn:l.Nodup) (c:Nat) (P:Rg.T→Bool):Rg.O ((Rg.O l c).filter P) 0=l.filter P:=by refine List.Perm.eq_of_pairwise (le:=Rg.lt) (fun a b _ _ h1 h2=>absurd h2 (Rg.lt_asymm h1)) (Rg.zZ _ 0 ay ?_) (hl.filter P) ((Rg.jP _ 0).trans ((Rg.jP l c).filter P));exact ((Rg.jP l c).symm.nodup hn).filter P
theorem aeN (base:Nat) (lv:Value) (M:List Rg.T) (W:World) (hO:W.ownsRow base 68 3 lv M.length (fl M)) (hM:M.length≤100) :
  Calls prog 141 #[lv,.func (.func 110) #[] #[]] W fun e w'=>e=.returned (.tuple #[])∧ng base w' lv (Rg.O M 0)∧∀ B w0,RowKit.Below B w0 W→B≤base→B≤W.heap.size→RowKit.Below B w0 w':=by have vT:=hO;rcases hO.2 with ⟨rfl,h0⟩ | ⟨g,cp,cur,rfl,hg,hh,hcp,hcm,_⟩;{have h1:M=[]:=List.eq_nil_of_length_eq_zero h0;subst h1;refine (QM 110 0 none #[] W).mono ?_;rintro e w' ⟨rfl,rfl⟩;have e0:Rg.O [] 0=[]:=List.eq_nil_of_length_eq_zero (by rw [Rg.nE];rfl);rw [e0];exact ⟨rfl,⟨none,0,rfl,gW.nil _,Or.inl rfl⟩,fun B w0 h _ _=>h⟩};{refine (QL 0 110 ay #[] g cp M W (enters_of func110 aF rfl) hM (abz g _ W) (EX vT) (vT.lt g rfl).2 hcp hcm).mono ?_;rintro e w' ⟨rfl,hI,hB,_,hH⟩;refine ⟨rfl,⟨some ⟨g,0,none⟩,cp,by rw [Rg.nE],hI,?_⟩,fun B w0 h1 h2 h3=>hB B w0 h1 ay h3⟩;rcases Nat.eq_zero_or_pos M.length with h0 | h0;{exact Or.inl (by rw [Rg.nE];exact h0)};{exact Or.inr ⟨g,rfl,hg,lt_of_cell (HoldsK.cell hH (i:=0) (c:=0) (by simp [Rg.nE];exact h0) ay).1,hH⟩}}
theorem aeO (p:Nat) (l:List Rg.T) (t:Rg.T) (w:World) (h:kC w p l) (ht:∀ c,c<3→-9223372036854775808≤Rg.at' t c) :
  Calls prog 120 #[.pointer (some ⟨p,0,none⟩),tv t] w fun e w'=>∃ v,e=.returned v∧ng w.heap.size w' v (l.filter (Rg.mt t))∧Below w.heap.size w w':=by
 obtain ⟨i0,hi,hz0,hz1,hz2⟩:=info_parts Tryz.rainfo68;have HR:=aj h;have HT:=aj ht;have hcc:=(Rg.H_ t).1;have hL:=h.2.2.1;have hce:=Rg.count_eq l t;have hq:l.countP (Rg.dJ t).2.2≤l.length:=List.countP_le_length;clear h ht;unfold tv;go_enter func120,ntmps120;go_upto_region 1 with fail
 obtain ⟨w1,hw1,HX,HB,HD,hz⟩:=EO w t;rw [←hw1];obtain ⟨c0,c1,c2⟩:=lQ HX.out;clear hw1;have FD:=abn p l t w1 (HR.out.keep HB.out) HT.out;unfold fv tv at FD;obtain ⟨cc,Ck⟩:=aC ((Rg.dJ t).1);obtain ⟨n1,hn1⟩:=aC (l.countP (Rg.dJ t).2.1);obtain ⟨n2,hn2⟩:=aC (l.countP (Rg.dJ t).2.2);rw [←Ck,←hn1,←hn2] at FD;rw [←Ck] at hcc;rw [←hn1,←hn2] at hce;rw [←hn2] at hq;obtain ⟨M,hM⟩:=aC ((Rg.O l cc).filter (Rg.mt t));have K_:M.length=n2-n1:=by rw [hM,hn1,hn2,Ck];exact Rg.qz t
 have S9:∀ i (h:i<M.length),(Rg.O l cc)[n1+i]?=some M[i]:=fun i h=>by have h1:=Rg.abe HR.out.nodup t i (by rw [←hn1,←hn2,←K_];exact h);rw [←Ck,←hn1,←hM] at h1;rw [h1,List.getElem?_eq_getElem h]
 have S_:Rg.O M 0=l.filter (Rg.mt t):=by rw [hM];exact aeM HR.out.1 HR.out.nodup cc _
 have HMG:=aj S9;have HMO:=aj S_;have Cm:=aj K_;clear Ck hn1 hn2 hM K_ S9 S_ HD;go_upto_region 4 with (go_at_call 150;refine FD.mono ?_;rintro e w2 ⟨rfl,hb2⟩)
 obtain ⟨w3,hw3,HF,HB3⟩:=yx w2 (.int .i64 cc) (.int .i64 n1) (.int .i64 n2) 244;rw [←hw3];have hz3:w3.heap.size=w2.heap.size+1:=by rw [hw3];simp
 have eU:=aj (aI HB.out (aI hb2 HB3.out));have hzz:=hb2.size;clear hw3 FD c0 c1 c2 hb2 HB3 HX;have k1:=HF.out.cell (i:=1) rfl;go_wp2;obtain ⟨wo,hwo⟩:∃ wo:World,wo=w3:=⟨_,rfl⟩;go_loopw [6,7] (fun s6 s7 wr=>∃ (j:Nat) (lv:Value),j≤M.length∧s7=.int .i64 (n1+j:Nat)∧s6=lv∧Hid (Below w.heap.size w wr)∧Hid (aB wr w2.heap.size [.int .i64 cc,.int .i64 n1,.int .i64 n2] 244)∧Hid (wr.ownsRow (w2.heap.size+1) 68 3 lv j (fl (M.take j)))) (fun s6 s7 _=>n2-(intOf s7).toNat)
 case atStart=>exact ⟨0,.slice none 0 0,ay,rfl,rfl,eU.out,HF.out,by rw [List.take_zero,F8];exact aj (World.ownsRow_nil _ _ _ _)⟩
 case round=>
  obtain ⟨j,lv,hj,rfl,hlv,bg,oz,HO⟩:=hrel;have hlv2:=hlv.symm;subst hlv2;have d0:=oz.out.cell (i:=0) rfl;have d2:=oz.out.cell (i:=2) rfl;have hml:=Cm.out;by_cases hlt:j<M.length
  · obtain ⟨x,hx⟩:=aC (M[j]);have RW:=abt p cc (n1+j) l x wr (HR.out.keep bg.out) hcc (by rw [hx];exact HMG.out j hlt);unfold tv at RW;have hfl:fl (M.take j)++tl x=fl (M.take (j+1)):=(by rw [←F9,hx,List.take_add_one,List.getElem?_eq_getElem hlt];rfl);have La:=aj hfl;have hbz:=bg.out.size;clear hfl hx;(go_upto_region 8 with fail);have ahG:n1+j+1≤100:=ay;go_wp2_with (first
     | (go_at_call 151;refine RW.mono ?_;rintro e w5 ⟨rfl,hb5⟩;have aQ:=aj hb5;have qA:=aj (Ii HO.out hb5);clear hb5)
     | (at_builtin;refine nD rfl (.tmp 21) (.tmp 27) 53 rfl (w2.heap.size+1) 68 i0 _ 3 24 underlying53 hi hz0 hz1 hz2 rfl aL _ _ _ rfl (qA.out.alloc _) (some ⟨w5.heap.size,0,none⟩) 1 1 (tl x) rfl ?nil rfl ?news ?one ?b1 ?b2 ?base ?_))
    (case nil=>intro h;cases h);case news=>
     intro ad had k u hu;cases had;match k with
     | 0=>simp [tl] at hu;subst hu;simp [go_sem]
     | 1=>simp [tl] at hu;subst hu;simp [go_sem]
     | 2=>simp [tl] at hu;subst hu;simp [go_sem]
     | k+3=>simp [tl] at hu
    (case one=>intro u hu;simp [tl] at hu;rcases hu with rfl | rfl | rfl <;> rfl);(case b1=>unfold maxLen;omega);(case b2=>omega);(case base=>have:=aQ.out.size;have:=oz.out.lt;simp;omega);intro OH w6 hown hgr hmv;rw [La.out] at hown;have vF:=aQ.out.size;have hlt2:=oz.out.lt;have hgr5:w5.grownBy w6 lv.ownBlock:=⟨hgr.os,hgr.tape,hgr.output,by have:=hgr.size;simp at this;omega,fun k hk hne=>by rw [hgr.block k (by simp;omega) hne,RowKit.Below.heap_alloc _ _ _ hk]⟩;have nO:∀ k,lv.ownBlock=some k→w2.heap.size+1≤k:=fun k hk=>(qA.out.lt k hk).1;have oK:aB w6 w2.heap.size [.int .i64 cc,.int .i64 n1,.int .i64 n2] 244:=(by have h:=oz.out.keep aQ.out;unfold aB at *;rw [hgr5.block w2.heap.size ay (fun e=>by have:=nO _ e.symm;omega)];exact h);have aR:RowKit.Below w.heap.size w w6:=(aI bg.out aQ.out).grown hgr5 (by have:=bg.out.size;omega) (fun k hk=>by have:=nO k hk;have:=HB.out.size;omega);have HOWN:=aj hown;have aeP:=aj oK;have aeQ:=aj aR;clear hown hgr hmv hgr5 nO oK aR qA;go_wp2;go_roundw
    (case rel=>exact ⟨j+1,_,ay,aN,rfl,aeQ.out,aeP.out,HOWN.out⟩);case measure=>simp [intOf];omega
  {have hjm:j=M.length:=ay;have hO:=HO.out;rw [hjm,List.take_length] at hO;have SO:=aeN _ lv M wr hO ay;rw [HMO.out] at SO;have ahH:¬ (n1:Int)+j<n2:=ay;clear hO HO;(go_wp2_with (go_at_call 141;refine SO.mono ?_;rintro e w6 ⟨rfl,hI6,vU⟩));go_ret;have h1:=HB.out.size;obtain ⟨a,cap,hv,h3,h4⟩:=hI6;refine ⟨_,rfl,⟨a,cap,hv,h3,?_⟩,vU _ _ bg.out ay bg.out.size⟩;rcases h4 with h4 | ⟨g,e1,e2,e3,e4⟩;{exact Or.inl h4};{exact Or.inr ⟨g,e1,ay,e3,e4⟩}}
end Go.Proofs.YtockbaekcbeenaaGreatDoor
