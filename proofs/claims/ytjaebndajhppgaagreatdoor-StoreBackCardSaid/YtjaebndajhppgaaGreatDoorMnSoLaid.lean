/-SoLaid-/
import Derived.Test.YtjaebndajhppgaaGreatDoorMnSoDec
import Derived.Test.YtjaebndajhppgaaGreatDoorMnSoBuild
import Derived.Test.YtjaebndajhppgaaGreatDoorMnGUn
import Derived.Test.YtjaebndajhppgaaGreatDoorMnGFr3
import Derived.Test.YtjaebndajhppgaaGreatDoorMnPrEsc2
import Derived.Test.YtjaebndajhppgaaGreatDoorCards
import Derived.Test.YtjaebndajhppgaaGreatDoorTie
import Derived.MakeChecks
import Derived.Lay
import Derived.LaidLaws
import Derived.Lib.LaidU8T
set_option linter.unusedVariables false
set_option linter.unusedSimpArgs false
set_option maxRecDepth 100000
set_option maxHeartbeats 8000000
namespace Go.Proofs.YtjaebndajhppgaaGreatDoor
open Go.ChangeShapes Go.WideShapes Go.ChangeAt Go.RowKit Go.Sort
theorem dec_not (a:Option Addr) (m cap:Nat) (b:List Nat) (w:World) (hm:m=b.length) (h:BytesAt w (.slice a m cap) b) (hb:∀ i,b.getD i 0<256) (hn:Bx.fT b=none) :
  Calls Tryz.prog 17 #[.slice a m cap] w fun e w'=>e=.returned (.tuple #[.pointer none,.int .i64 2])∧Below w.heap.size w w':=by
 have UN:=hid (Rx a m cap b w hm h hb);have HN:=hid hn;clear hn hb h hm;go_enter Tryz.func17,Tryz.ntmps17;go_wp2_with fail
 refine UN.out.mono ?_;rintro e w1 ⟨hB1,⟨ho,rfl⟩ | ⟨v,L,ho,rfl,hF⟩⟩
 · go_wp2;go_ret2
   exact ⟨rfl,hB1⟩
 {rw [HN.out] at ho;cases ho}
theorem aft {L:List TR} (hl:∀ t∈L,Tm.aN t=true) (hn:L.length≤100):Bx.fT (So.file L)=some (So.secs L):=Bx.GZ.2 ⟨So.r_ hl hn,rfl⟩
theorem yX {L:List TR} (hl:∀ t∈L,Tm.aN t=true) (hn:L.length≤100):∀ i,(So.file L).getD i 0<256:=Cm (So.secs L) (So.sj hl hn)
theorem afu (L:List TR) (hl:∀ t∈L,Tm.aN t=true) (hs:Tm.dH L) (hn:L.length≤100) (a:Option Addr) (m cap:Nat) (w:World) (hm:m=(So.file L).length) (h:BytesAt w (.slice a m cap) (So.file L)) (hV:Vars w) (hE:bO w) :
  Calls Tryz.prog 17 #[.slice a m cap] w fun e w'=>∃ p,e=.returned (.tuple #[.pointer (some ⟨p,0,none⟩),.int .i64 0])∧fQ w' p L∧Below w.heap.size w w':=by
 have UN:=hid (Rx a m cap (So.file L) w hm h (yX hl hn));have HU:=hid (aft hl hn);have HA:=hid h;have HL:=hid hl;have HS:=hid hs;have HN:=hid hn;have HV:=hid hV;have HE:=hid hE;have HM:=hid hm;clear hl hs hn h hm hV hE;go_enter Tryz.func17,Tryz.ntmps17;go_wp2_with fail
 refine UN.out.mono ?_;rintro e w1 ⟨hB1,⟨ho,rfl⟩ | ⟨v,S,ho,rfl,hF⟩⟩;{rw [HU.out] at ho;cases ho}
 · rw [HU.out] at ho;obtain rfl:So.secs L=S:=Option.some.inj ho;have HB1:=hid hB1;have HSE:=hid hF.it;obtain ⟨av,cv,rfl,hc1,hc2,_⟩:=hF.it.open;obtain ⟨b,off,rfl,hc⟩:=hF.it.get (i:=0) (show 0<2 by omega);obtain ⟨c00,v1,RU,hv1⟩:=hc 0 (show 0<2 by omega);obtain ⟨c10,v2,c11,hv2⟩:=hc 1 (show 1<2 by omega);have aT:=hid hv1;have dI:=hid hv2;change BytesAt w1 v1 (So.jP L) at hv1;clear hF hB1 ho UN hc hv1 hv2;simp only [Nat.zero_mul,Nat.add_zero,Nat.one_mul] at c00 RU c10 c11;have afv:=yX HL.out HN.out;have RD:=hid (afs v1 (So.jP L) w1 aT.out (So.BM (So.He HL.out HN.out)));have IY:=hid (Fr.aeC (So.uT HL.out HN.out));clear afv;change (2:Nat)≤cv at hc1;rw [show (So.secs L).length=2 from rfl];(go_wp2_with fail);refine RD.out.mono ?_;rintro e w2 ⟨hB2,⟨ho,rfl⟩ | ⟨T,d,ho,_,_,rfl,hd⟩⟩;{rw [show So.jP L=Fr.aS (So.texts L) (So.texts L).length from rfl,IY.out] at ho;cases ho}
   · rw [show So.jP L=Fr.aS (So.texts L) (So.texts L).length from rfl,IY.out] at ho;obtain rfl:So.texts L=T:=Option.some.inj ho;have c11':=ak hB2 c11;have Cv:=aA HB1.out hB2;obtain ⟨a2,k2,rfl,_⟩:=bf.open dI.out;have HD:=hid (aeV L HL.out HN.out a2 _ k2 d w2 (dI.out.keep hB2) rfl hd (HV.out.keep Cv) (HE.out.keep Cv));have HB2:=hid Cv;clear ho hB2 hd RD IY c00 RU c10 c11 Cv;(go_wp2_with fail);refine HD.out.mono ?_;rintro e w3 ⟨v3,rfl,ht3,hb3⟩;have HB3:=hid (aA HB2.out hb3);have PS:=hid (NA L HL.out (by have:=HN.out;omega) w3 v3 ht3);have HRS:=hid (Tm.vV HL.out HS.out fun t=>Iff.rfl);clear hb3 ht3 HD c11';(go_wp2_with fail);refine PS.out.mono ?_;rintro e w4 ⟨v4,rfl,IZ,hb4⟩;rw [←HRS.out] at IZ;have aI:=hid (aA HB3.out hb4);have BU:=hid (NT L HL.out HS.out HN.out w4 v4 IZ);clear hb4 IZ PS;(go_wp2_with fail);refine BU.out.mono ?_;rintro e w5 ⟨p,rfl,hst,hb5⟩;have aH:=hid (aA aI.out hb5);have HST:=hid hst;have EN:=hid (H_ L HL.out HN.out p w5 hst);clear hb5 hst BU;(go_wp2_with fail);refine EN.out.mono ?_;rintro e w6 ⟨v6,rfl,hown,hb6⟩;have aP:=hid (aA aH.out hb6);have afw:=hid (HST.out.keep hb6);have HB0:=hid (su hown rfl);have EQ:=hid (QE v6 _ (So.file L) (So.file L) w6 HB0.out (HA.out.keep aP.out) (yX HL.out HN.out) (yX HL.out HN.out));rw [decide_eq_true rfl] at EQ;clear hb6 hown EN HST;(go_wp2_with fail);refine EQ.out.mono ?_;rintro e w7 ⟨rfl,rfl⟩;go_wp2;go_ret2
     exact ⟨p,rfl,afw.out,aP.out⟩
end Go.Proofs.YtjaebndajhppgaaGreatDoor
namespace Go.Proofs.YtjaebndajhppgaaGreatDoor.Cr
open Go Go.ChangeShapes Go.WideShapes Go.ChangeAt Go.RowKit
theorem afx (x y:Nat):2*(x ^^^ y)=(2*x) ^^^ (2*y):=by apply Nat.eq_of_testBit_eq;intro j;rw [Nat.testBit_xor,uQ,uQ,uQ,Nat.testBit_xor];cases decide (0<j) <;> simp
theorem afy (x y:Nat):T (x ^^^ y)=T x ^^^ T y:=by unfold T;rw [afx,Nat.testBit_xor];cases x.testBit 23 <;> cases y.testBit 23 <;> simp;{rw [Nat.xor_assoc]};{rw [Nat.xor_assoc,Nat.xor_assoc,Nat.xor_comm (2*y)]};{rw [Nat.xor_assoc,Nat.xor_comm 25578747,Nat.xor_assoc,Nat.xor_self,Nat.xor_zero]}
theorem afz (x:Nat) (h:T x=0):x=0:=by unfold T at h;have h0:=congrArg (fun z=>Nat.testBit z 0) h;simp only [Nat.testBit_xor,uQ] at h0;cases hb:x.testBit 23;{rw [hb] at h;simp at h;omega};{have h1:Nat.testBit 25578747 0=true:=(by decide);simp [hb,h1] at h0}
theorem afA {x y:Nat} (h:T x=T y):x=y:=by
 have h1:T (x ^^^ y)=0:=by rw [afy,h,Nat.xor_self]
 have h2:=afz _ h1;have h3:=congrArg (fun z=>x ^^^ z) h2;simp only [←Nat.xor_assoc,Nat.xor_self,Nat.zero_xor,Nat.xor_zero] at h3;exact h3.symm
theorem RV {k x y:Nat} (h:Tn k x=Tn k y):x=y:=by
 induction k with
 | zero=>exact h
 | succ k ih=>exact ih (afA h)
theorem afB {s s' c:Nat} (h:step s c=step s' c):s=s':=by have:=RV h;have h2:=congrArg (fun z=>z ^^^ (65536*c)) this;simpa [Nat.xor_assoc] using h2
theorem afC {s c c':Nat} (h:step s c=step s c'):c=c':=by
 have:=RV h;have h2:=congrArg (fun z=>s ^^^ z) this;have h3:(65536*c)=(65536*c'):=by rw [←Nat.xor_assoc,←Nat.xor_assoc,Nat.xor_self,Nat.zero_xor,Nat.zero_xor] at h2;exact h2
 omega
theorem afD {s s':Nat} (l:List Nat):run s l=run s' l→s=s':=by
 induction l generalizing s s' with
 | nil=>exact id
 | cons c l ih=>intro h;exact afB (ih h)
theorem RY (l:List Nat) (q c c':Nat) (hq:q<l.length) (h:sum (l.set q c)=sum (l.set q c')):c=c':=by
 have e:∀ x,l.set q x=l.take q++x::l.drop (q+1):=fun x=>List.set_eq_take_append_cons_drop .. |>.trans (by rw [if_pos hq])
 rw [e,e] at h;unfold sum at h;rw [BF,BF] at h;exact afC (afD _ h)
end Go.Proofs.YtjaebndajhppgaaGreatDoor.Cr
namespace Go.Proofs.YtjaebndajhppgaaGreatDoor.Bx
open Go Go.ChangeShapes Go.WideShapes Go.ChangeAt Go.RowKit
theorem I4 {n m:Nat} (hn:n<16777216) (hm:m<16777216) (h:three n=three m):n=m:=by unfold three at h;injection h with h1 h2;injection h2 with h2 h3;injection h3 with h3 _;omega
theorem I5 {b:List Nat} (h:∀ L,May L→file L≠b):fT b=none:=by
 cases hu:fT b with
 | none=>rfl
 | some L=>obtain ⟨h1,h2⟩:=GZ.1 hu;exact absurd h2 (h L h1)
def keys (L:List aO):List (Nat×Nat):=L.map fun s=>(s.2.length,Cr.sum s.2)
theorem RZ:∀ (L L':List aO),L.length=L'.length→entries L=entries L'→(∀ s∈L,s.2.length<16777216∧Cr.sum s.2<16777216)→(∀ s∈L',s.2.length<16777216∧Cr.sum s.2<16777216)→keys L=keys L':=by
 intro L;induction L with
 | nil=>intro L' h _ _ _;cases L' with
  | nil=>rfl
  | cons s L'=>simp at h
 | cons s L ih=>
  intro L' h he hb hb';cases L' with
  | nil=>simp at h
  | cons s' L'=>rw [uR,uR] at he;obtain ⟨e1,e2⟩:=List.append_inj he (by rw [yH,yH]);unfold entry at e1;injection e1 with _ e1;obtain ⟨e3,e4⟩:=List.append_inj e1 (by rw [iB,iB]);have hs:=hb s (List.mem_cons_self ..);have hs':=hb' s' (List.mem_cons_self ..);have e5:=I4 hs.1 hs'.1 e3;have e6:=I4 hs.2 hs'.2 e4;have:=ih L' (by simpa using h) e2 (fun t ht=>hb t (List.mem_cons_of_mem _ ht)) (fun t ht=>hb' t (List.mem_cons_of_mem _ ht));simp only [keys,List.map_cons] at this ⊢;rw [this,e5,e6]
theorem afE {L L':List aO} (h:keys L=keys L'):sizes L=sizes L':=by have:=congrArg (fun l:List (Nat×Nat)=>(l.map Prod.fst).sum) h;simp only [keys,List.map_map] at this;exact this
theorem afF (L:List aO) (n:Nat):entries (L.take n)=(entries L).take (7*n):=by
 induction L generalizing n with
 | nil=>simp [entries]
 | cons s L ih=>
  cases n with
  | zero=>simp [entries]
  | succ n=>have ht:(entry s).take (7*(n+1))=entry s:=List.take_of_length_le (by rw [yH];omega);rw [List.take_succ_cons,uR,uR,ih,List.take_append,ht,yH,show 7*(n+1)-7=7*n by omega]
theorem Cw {L L':List aO} {X X':List Nat} (h:May L) (h':May L') (hb:Bytes L) (hb':Bytes L') (he:entries L++X=entries L'++X') (hle:L.length≤L'.length) :
  total L+7*(L'.length-L.length)≤total L':=by
 have e1:entries L=entries (L'.take L.length):=by rw [afF];have:=congrArg (List.take (7*L.length)) he;rw [←yJ,List.take_left,List.take_append_of_le_length (by rw [yJ,yJ];omega),yJ] at this;exact this
 have hk:=RZ L (L'.take L.length) (by simp;omega) e1 (small h hb) (fun s hs=>small h' hb' s (List.mem_of_mem_take hs));have hs:=afE hk;have:=BJ L' L.length;unfold total;omega
theorem R3 {L L':List aO} {x:List Nat} (h:May L) (h':May L') (hb:Bytes L) (hb':Bytes L') (e:file L++x=file L'):x=[]:=by
 have hl:=jO L;have hl':=jO L';have h5:L.length=L'.length:=by have h1:=rZ L;have h2:=rZ L';rw [←e,List.getD,List.getElem?_append_left (by rw [hl];unfold total;omega)] at h2;rw [List.getD] at h1;have:=h.1;have:=h'.1;omega
 have h6:=yK L';rw [←e,List.drop_append_of_le_length (by rw [hl];unfold total;omega),yK L,List.append_assoc] at h6;have t1:=Cw h h' hb hb' h6 (by omega);have t2:=Cw h' h hb' hb h6.symm (by omega);have:=congrArg List.length e;rw [List.length_append] at this;exact List.eq_nil_of_length_eq_zero (by omega)
theorem afG:∀ (L L':List aO) (k c:Nat),keys L=keys L'→bodies L'=(bodies L).set k c→k<(bodies L).length→c=(bodies L).getD k 0:=by
 intro L;induction L with
 | nil=>intro L' k c _ _ hk;exact absurd hk (Nat.not_lt_zero _)
 | cons s L ih=>
  intro L' k c hkey hb hk;cases L' with
  | nil=>simp [keys] at hkey
  | cons s' L'=>simp only [keys,List.map_cons,List.cons.injEq,Prod.mk.injEq] at hkey;obtain ⟨⟨e1,e2⟩,e3⟩:=hkey;rw [yI,yI] at hb;rw [yI] at hk ⊢;by_cases hlt:k<s.2.length;{rw [List.set_append_left _ _ hlt] at hb;obtain ⟨e4,_⟩:=List.append_inj hb (by rw [List.length_set];exact e1.symm);rw [List.getD,List.getElem?_append_left hlt,List.getElem?_eq_getElem hlt,Option.getD_some];refine Cr.RY s.2 k c _ hlt ?_;rw [List.set_getElem_self,←e4,e2]};{rw [List.set_append_right _ _ (by omega)] at hb;obtain ⟨_,e5⟩:=List.append_inj hb e1.symm;rw [List.getD,List.getElem?_append_right (by omega)];exact ih L' (k-s.2.length) c e3 e5 (by rw [List.length_append] at hk;omega)}
theorem afH {l:List Nat} {i j c:Nat} (h:i≠j):(l.set i c).getD j 0=l.getD j 0:=by simp [List.getD,List.getElem?_set_ne h]
theorem R4 {l:List Nat} {i c:Nat} (h:i<l.length):(l.set i c).getD i 0=c:=by simp [List.getD,h]
theorem turned {L L':List aO} {q c:Nat} (h:May L) (h':May L') (hb:Bytes L) (hb':Bytes L') (hq:q<(file L).length) (e:file L'=(file L).set q c):c=(file L).getD q 0:=by
 apply Classical.byContradiction;intro hc;have hl:=jO L;have hl':=jO L';have hll:=congrArg List.length e;rw [List.length_set,hl,hl'] at hll;have h8:=h.1;have h8':=h'.1;have ht:9+7*L.length≤total L:=by unfold total;omega
 have hself:(file L').getD q 0=c:=by rw [e];exact R4 hq
 by_cases q5:q<5
 · have:∀ K:List aO,(file K).getD q 0=[84,82,73,86,1].getD q 0:=fun K=>by
    match q,q5 with
    | 0,_=>rfl
    | 1,_=>rfl
    | 2,_=>rfl
    | 3,_=>rfl
    | 4,_=>rfl
   rw [this] at hself;exact hc (by rw [this];exact hself.symm)
 by_cases q6:q=5;{subst q6;have h6:=yK L';rw [e,List.drop_set_of_lt (by omega),yK L] at h6;have f5:=rZ L;have Cx:=rZ L';rw [hself] at Cx;have hne:L.length≠L'.length:=(by intro heq;apply hc;rw [f5,Cx,heq]);rcases Nat.lt_or_gt_of_ne hne with hlt | hlt;{have:=Cw h h' hb hb' h6 (by omega);omega};{have:=Cw h' h hb' hb h6.symm (by omega);omega}};have hn:L.length=L'.length:=by have f5:=rZ L;have Cx:=rZ L';rw [e,afH (by omega),f5] at Cx;omega
 have nI:=oP L;have agD:=oP L';have hsum:Cr.sum (head L)<16777216∧Cr.sum (head L')<16777216:=by
  have hby:∀ K:List aO,∀ i,(head K).getD i 0<256:=fun K i=>by have hall:∀ x∈head K,x<256:=(by intro x hx;unfold head at hx;rw [List.mem_append] at hx;rcases hx with hx | hx;{simp at hx;omega};{unfold entries at hx;rw [List.mem_flatMap] at hx;obtain ⟨s,_,hs⟩:=hx;unfold entry three at hs;simp at hs;omega});rcases Nat.lt_or_ge i (head K).length with hi | hi;{rw [List.getD,List.getElem?_eq_getElem hi];exact hall _ (List.getElem_mem _)};{rw [List.getD,List.getElem?_eq_none hi];decide}
  exact ⟨Cr.sum_lt _ (hby L),Cr.sum_lt _ (hby L')⟩
 have e2:=e;unfold file at e2;rw [List.append_assoc,List.append_assoc] at e2;by_cases q7:q<6+7*L.length;{rw [List.set_append_left _ _ (by omega)] at e2;obtain ⟨a1,a2⟩:=List.append_inj e2 (by rw [List.length_set];omega);obtain ⟨a3,_⟩:=List.append_inj a2 (by rw [iB,iB]);have hs:=I4 hsum.2 hsum.1 a3;rw [a1] at hs;have I6:q<(head L).length:=(by omega);have:=Cr.RY (head L) q c ((head L)[q]) I6 (by rw [List.set_getElem_self];exact hs);apply hc;rw [this];unfold file;rw [List.append_assoc,List.getD,List.getElem?_append_left I6,List.getElem?_eq_getElem I6];rfl};{rw [List.set_append_right _ _ (by omega)] at e2;obtain ⟨a1,a2⟩:=List.append_inj e2 (by omega);by_cases q8:q-(head L).length<3;{rw [List.set_append_left _ _ (by rw [iB];exact q8)] at a2;obtain ⟨a3,_⟩:=List.append_inj a2 (by rw [List.length_set,iB,iB]);rw [a1] at a3;apply hc;have:=congrArg (fun l:List Nat=>l.getD (q-(head L).length) 0) a3;simp only [R4 (show q-(head L).length<(three (Cr.sum (head L))).length by rw [iB];exact q8)] at this;rw [←this];unfold file;rw [List.append_assoc,List.getD,List.getD,List.getElem?_append_right (by omega),List.getElem?_append_left (by rw [iB];exact q8)]};{rw [List.set_append_right _ _ (by rw [iB];omega)] at a2;obtain ⟨_,a4⟩:=List.append_inj a2 (by rw [iB,iB]);unfold head at a1;obtain ⟨_,a5⟩:=List.append_inj a1 (by rfl);have hk:=RZ L L' hn a5.symm (small h hb) (small h' hb');have hbl:q-(head L).length-3<(bodies L).length:=(by rw [GX];unfold total at hl;omega);have:=afG L L' _ c hk a4 (by rw [iB];exact hbl);apply hc;rw [this];unfold file;rw [List.append_assoc,List.getD,List.getD,List.getElem?_append_right (by omega),List.getElem?_append_right (by rw [iB];omega)]}}
end Go.Proofs.YtjaebndajhppgaaGreatDoor.Bx
namespace Go.Proofs.YtjaebndajhppgaaGreatDoor
open Go.ChangeShapes Go.WideShapes Go.ChangeAt Go.RowKit
theorem I7 {L:List Bx.aO} (h:∀ x∈Bx.file L,x<256):Bx.Bytes L:=fun s hs=>BQ fun x hx=>h x (by unfold Bx.file;rw [List.mem_append];refine Or.inr ?_;unfold Bx.bodies;exact List.mem_flatMap.2 ⟨s,hs,hx⟩)
theorem I8 {L:List Bx.aO} (hb:Bx.Bytes L):∀ x∈Bx.file L,x<256:=fun x hx=>by obtain ⟨i,hi,rfl⟩:=List.getElem_of_mem hx;have:=Cm L hb i;rwa [List.getD,List.getElem?_eq_getElem hi] at this
theorem afI {L:List Bx.aO} {q c:Nat} (h:Bx.May L) (hb:Bx.Bytes L) (hq:q<Bx.total L) (hc:c<256) (hne:c≠(Bx.file L).getD q 0):Bx.fT ((Bx.file L).set q c)=none:=
 Bx.I5 fun L' h' e=>hne (Bx.turned h h' hb (I7 fun x hx=>by
  rw [e] at hx;rcases List.mem_or_eq_of_mem_set hx with hx | rfl;{exact I8 hb x hx}
  · exact hc) (by rw [Bx.jO];exact hq) e)
theorem afJ {L:List Bx.aO} {k:Nat} (h:Bx.May L) (hb:Bx.Bytes L) (hk:k<Bx.total L):Bx.fT ((Bx.file L).take k)=none:=
 Bx.I5 fun L' h' e=>by
  have h1:Bx.file L'++(Bx.file L).drop k=Bx.file L:=by rw [e,List.take_append_drop]
  have h2:=Bx.R3 h' h (I7 fun x hx=>by rw [e] at hx;exact I8 hb x (List.mem_of_mem_take hx)) hb h1;have:=congrArg List.length h2;rw [List.length_drop,Bx.jO] at this;simp at this;omega
theorem afK {L:List Bx.aO} {y:Nat} (h:Bx.May L) (hb:Bx.Bytes L) (hy:y<256):Bx.fT (Bx.file L++[y])=none:=
 Bx.I5 fun L' h' e=>by
  have h2:=Bx.R3 h h' hb (I7 fun x hx=>by
   rw [e,List.mem_append] at hx;rcases hx with hx | hx;{exact I8 hb x hx}
   · simp at hx;omega) e.symm
  cases h2
end Go.Proofs.YtjaebndajhppgaaGreatDoor
namespace Go.Proofs.YtjaebndajhppgaaGreatDoor
open Go.ChangeShapes Go.WideShapes Go.ChangeAt Go.RowKit
theorem R5 (x:Int):∃ A:Nat,A≤65535∧bits BinOp.and IntKind.i64 x 65535=(A:Int):=by refine ⟨((BitVec.ofInt 64 x) &&& 65535#64).toNat,?_,?_⟩;{rw [BitVec.toNat_and];exact Nat.and_le_right};{show IntKind.i64.wrap ((BitVec.ofInt 64 x &&& BitVec.ofInt 64 65535).toNat:Int)=_;have h:((BitVec.ofInt 64 x) &&& 65535#64).toNat≤65535:=(by rw [BitVec.toNat_and];exact Nat.and_le_right);rw [show BitVec.ofInt 64 65535=65535#64 from rfl];exact IntWalk.i64_in _ ⟨by omega,by omega⟩}
theorem afL (c y:Nat) (hy:0<y):c ^^^ y≠c:=by intro h;have:=congrArg (fun z=>c ^^^ z) h;simp only [←Nat.xor_assoc,Nat.xor_self,Nat.zero_xor] at this;omega
theorem afM {W:World} {a:Option Addr} {n cap:Nat} {l:List Nat} (h:BytesAt W (.slice a n cap) l) (k:Nat) (hk:k≤n):BytesAt W (.slice a k cap) (l.take k):=h.front k hk
theorem afN {l:List Nat} (h:∀ i,l.getD i 0<256) (k:Nat):∀ i,(l.take k).getD i 0<256:=fun i=>by simp only [List.getD,List.getElem?_take];split;{exact h i};{simp}
theorem afO {l:List Nat} (h:∀ i,l.getD i 0<256):∀ i,(l++[0]).getD i 0<256:=fun i=>by
 by_cases q:i<l.length;{simpa [List.getD,List.getElem?_append_left q] using h i}
 · simp only [List.getD,List.getElem?_append_right (Nat.le_of_not_lt q)];cases i-l.length with
   | zero=>simp
   | succ j=>simp
theorem afP {l:List Nat} (h:∀ i,l.getD i 0<256) {k x:Nat} (hx:x<256):∀ i,(l.set k x).getD i 0<256:=fun i=>by simp only [List.getD,List.getElem?_set];split;{split;{exact hx};{simp}};{exact h i}
theorem R6 (l:List Nat) (n:Nat) (hn:n=l.length):(List.range n).map (fun i=>aF (l[i]?.getD 0))=l.map aF:=by subst hn;refine List.ext_getElem (by simp) fun i h1 h2=>?_;simp [show i<l.length by simpa using h1]
section
variable {S:List TR} (hl:∀ t∈S,Tm.aN t=true) (hn:S.length≤100)
include hl hn
theorem afQ {k:Nat} (hk:k<(So.file S).length):Bx.fT ((So.file S).take k)=none:=afJ (So.r_ hl hn) (So.sj hl hn) (by rw [←Bx.jO];exact hk)
theorem afR:Bx.fT (So.file S++[0])=none:=afK (So.r_ hl hn) (So.sj hl hn) (by omega)
theorem afS {q c:Nat} (hq:q<(So.file S).length) (hc:c<256) (hne:c≠(So.file S).getD q 0):Bx.fT ((So.file S).set q c)=none:=afI (So.r_ hl hn) (So.sj hl hn) (by rw [←Bx.jO];exact hq) hc hne
end
end Go.Proofs.YtjaebndajhppgaaGreatDoor
namespace Go.Proofs.YtjaebndajhppgaaGreatDoor
open Go.ChangeShapes Go.WideShapes Go.ChangeAt Go.RowKit
theorem afT:Rows.laid_unicode_utf8_first=Lib.firstData:=by kernel_rfl
theorem afU:(Rows.laid_unicode_utf8_acceptRanges:DataW Unit)=Lib.acceptData:=by kernel_rfl
theorem afV:∃ ms,Tryz.prog.underlying 176=some (.interface ms):=⟨_,Tryz.underlying176⟩
theorem afW {W:World} (h:laidMetH Tryz.prog Rows.storeOfNothingRow.laid W) (hs:W.ShapedOpen Tryz.prog):Vars W∧bO W:=by
 have h1:laidMet Tryz.prog Rows.storeOfNothingRow.laid W:=by rw [Go.MakeChecks.laidMetH_plain Tryz.prog _ _ (by kernel_rfl)] at h;exact h
 have h3:=Lib.laidMet.reads h1 (n := "unicode/utf8.first") (.tail _ (.tail _ (.tail _ (.tail _ (.tail _ (.tail _ (.tail _ (.head _))))))));have h4:=Lib.laidMet.reads h1 (n := "unicode/utf8.acceptRanges") (.tail _ (.tail _ (.tail _ (.head _))));have h5:=Lib.laidMet.reads h1 (n := "strconv.ErrSyntax") (.tail _ (.tail _ (.tail _ (.tail _ (.tail _ (.head _))))));rw [afT] at h3;rw [afU] at h4;refine ⟨⟨utf8Tabs_of_readsT (U8Types.of196 Tryz.lays196) ⟨by kernel_rfl,by kernel_rfl,by kernel_rfl,by kernel_rfl,by kernel_rfl,by kernel_rfl,by kernel_rfl⟩ h3 h4,?_⟩,?_⟩;{exact Go.Proofs.cell_of_shapedOpen_int (zero:=#[.int .i64 0]) (t:=3) hs (of_decide_eq_true (by kernel_rfl)) (by kernel_rfl) rfl (by kernel_rfl) (by kernel_rfl) Tryz.underlying3};{obtain ⟨g,t,cs,fuel,p,hg,ht,hv,htr⟩:=h5;have hg2:Tryz.prog.globalNamed "strconv.ErrSyntax" = some 4:=(by kernel_rfl);obtain rfl:g=4:=Option.some.inj (hg.symm.trans hg2);have ht2:(Tryz.prog.globals[4]?).map (·.type)=some 176:=(by kernel_rfl);obtain rfl:t=176:=Option.some.inj (ht.symm.trans ht2);obtain ⟨ms,hms⟩:=afV;obtain ⟨_,u,v,hcs,_,_⟩:=iface_of_trod hms htr;refine ⟨.iface u v,?_,.inr ⟨u,v,rfl⟩⟩;have:=World.var?_cell hg hv 0;rw [this,←Array.getElem?_toList,hcs];rfl}
noncomputable def I9 (os:Os):World:=World.laidAll Tryz.prog os Rows.storeOfNothingRow.laid
theorem afX {H:Type} {enc:TypeId×Value→H} {C:Checked} {os:Os} {f:FuncId} {fn:Func} {s:OpenSpec} {conds:List PathCond} {apart:Bool} {laid:List (String×DataW Unit)} (modest:Bool) (w0:World) (args:Array Value) (hos:w0.os=os)
  (hsh:(w0.forCall (fun _ _=>0) ⟨#[],args,[]⟩).Shaped C.prog)
  (hok:Input.okWideB C.prog (w0.forCall (fun _ _=>0) ⟨#[],args,[]⟩) f ⟨#[],args,[]⟩=true)
  (hrow:s.preRow enc C.prog fn conds apart laid (w0.forCall (fun _ _=>0) ⟨#[],args,[]⟩).memory args) :
  ∃ (w:World) (tape:Tape) (i:Input),w.os=os∧(w.forCall tape i).Shaped C.prog∧i.vars=[]∧Input.okWide C.prog (w.forCall tape i) .any w.heap.size f i ∧
   s.preRow enc C.prog fn conds apart laid (w.forCall tape i).memory i.args∧({ modest:=modest }:Assume).holds C.prog (lone (Frame.enter C.prog f i.args .normal) [] (w.forCall tape i)):=by refine ⟨w0,fun _ _=>0,⟨#[],args,[]⟩,hos,hsh,(Input.okWide_of_okWideB (base:=0) hok).1,(Input.okWide_of_okWideB hok).2,hrow,?_⟩;simp only [Assume.holds];exact ⟨by simp,by simp,fun _=>Modest.zero,by simp,by simp⟩
theorem afY (os:Os) (args:Array Value):laidMet Tryz.prog Rows.storeOfNothingRow.laid ((I9 os).forCall (fun _ _=>0) ⟨#[],args,[]⟩).memory:=laidMet_laidAll _ (by kernel_rfl) (by kernel_rfl)
end Go.Proofs.YtjaebndajhppgaaGreatDoor
