import Derived.Test.YtgfinhehgfbdgaaGreatDoorRa26
namespace Go.Proofs.YtgfinhehgfbdgaaGreatDoor
open Go.RowKit
def cutB:List Ent→Int→List Ent→List (List Ent)
 | cur,_,[]=>[cur]
 | cur,p,e::r=>if p+1=e.rep then cutB (cur++[e]) e.rep r else cur::cutB [e] e.rep r
theorem cutB_on {cur r:List Ent} {p:Int} {e:Ent} (h:p+1=e.rep):cutB cur p (e::r)=cutB (cur++[e]) e.rep r:=by rw [cutB,if_pos h]
theorem cutB_cut {cur r:List Ent} {p:Int} {e:Ent} (h:¬ p+1=e.rep):cutB cur p (e::r)=cur::cutB [e] e.rep r:=by rw [cutB,if_neg h]
theorem cutB_is (r:List Ent):∀ (cur:List Ent) (e:Ent) (last:Int),okV last (e::r)→cutA cur (e::r)=cutB (cur++[e]) e.rep r:=by
 induction r with
 | nil=>intro cur e last _;rfl
 | cons d r ih =>
   intro cur e last h;have hd:=h.2.1;rw [wrE_ok] at hd;by_cases hg:e.rep+1<d.rep
   · rw [cutA_cut hg,cutB_cut (by omega),ih [] d e.rep h.2];rfl
   · rw [cutA_on hg,cutB_on (by omega),ih (cur++[e]) d e.rep h.2]
theorem rvary_asV (n:Nat) (T:ByteArray) (w:World) (h:n≤1099511627776) (hT:⟨(putL n).toArray⟩=T) :
   Calls Tryz.prog 39 #[.int .u64 (n:Int)] w fun e w'=>e=.returned (.string T)∧Below w.heap.size w w':=by
 subst hT;exact rvary_any n w (by omega)
def RunsAt (l:List Ent) (k:Nat) (R:List (List Ent)) (cur:List Ent):Prop :=
 (k=0∧R=[]∧cur=[])∨∃ j d,k=j+1∧l[j]? = some d∧R++cutB cur d.rep (l.drop k)=runsL l
def RVWriteIs (w:World) (l:List Ent) (e:Ending) (w':World):Prop :=
 e=.returned (.tuple #[.string ⟨(vwriteF l).toArray⟩,faultV (vrightF l)])∧Below w.heap.size w w'
def areD (w:World) (B:Nat):List Value→List (List Ent)→Prop
 | [],[]=>True
 | v::vs,r::rs=>ownsE w 0 v r∧(∀ k,v.ownBlock=some k→k<B)∧areD w B vs rs
 | _,_=>False
theorem areD_len {w:World} {B:Nat} {vs:List Value}:∀ {rs:List (List Ent)},areD w B vs rs→vs.length=rs.length:=by
 induction vs with
 | nil=>intro rs h;cases rs with
   | nil=>rfl
   | cons r rs=>exact h.elim
 | cons v vs ih=>intro rs h;cases rs with
   | nil=>exact h.elim
   | cons r rs=>simp [ih h.2.2]
theorem areD_kept {w w':World} {B B':Nat} {row:Option Nat} (hg:w.grownBy w' row) (hB:B≤B') (hne:∀ v r,ownsE w 0 v r→(∀ k,v.ownBlock=some k→k<B)→v.ownBlock=none∨v.ownBlock≠row) {vs:List Value}:∀ {rs:List (List Ent)},areD w B vs rs→areD w' B' vs rs:=by
 induction vs with
 | nil=>intro rs h;cases rs with
   | nil=>trivial
   | cons r rs=>exact h.elim
 | cons v vs ih=>intro rs h;cases rs with
   | nil=>exact h.elim
   | cons r rs=>exact ⟨World.ownsRow.kept h.1 hg (hne v r h.1 h.2.1),fun k hk=>Nat.lt_of_lt_of_le (h.2.1 k hk) hB,ih h.2.2⟩
theorem areD_snoc {w:World} {B:Nat} {vs:List Value} {v:Value} {r:List Ent} (hv:ownsE w 0 v r) (hb:∀ k,v.ownBlock=some k→k<B):∀ {rs:List (List Ent)},areD w B vs rs→areD w B (vs++[v]) (rs++[r]):=by
 induction vs with
 | nil=>intro rs h;cases rs with
   | nil=>exact ⟨hv,hb,trivial⟩
   | cons r rs=>exact h.elim
 | cons v vs ih=>intro rs h;cases rs with
   | nil=>exact h.elim
   | cons r rs=>exact ⟨h.1,h.2.1,ih h.2.2⟩
theorem areD_are {w:World} {B:Nat} {vs:List Value}:∀ {rs:List (List Ent)},areD w B vs rs→areE w vs rs:=by
 induction vs with
 | nil=>intro rs h;cases rs with
   | nil=>trivial
   | cons r rs=>exact h.elim
 | cons v vs ih=>intro rs h;cases rs with
   | nil=>exact h.elim
   | cons r rs=>exact ⟨h.1.is,ih h.2.2⟩
theorem grown_below {w w':World} (h:Below w.heap.size w w'):w.grownBy w' none:=⟨h.os,h.tape,h.output,h.size,fun k hk _=>h.block k hk⟩
theorem own_apartV {w:World} {base base':Nat} {e1 e2:TypeId} {k1 k2 n1 n2:Nat} {v1 v2:Value} {x1 x2:List Value} (h1:w.ownsRow base e1 k1 v1 n1 x1) (h2:w.ownsRow base' e2 k2 v2 n2 x2) (hne:e1≠e2) :
   v1.ownBlock=none∨v1.ownBlock≠v2.ownBlock:=by
 rcases h1.2 with ⟨rfl,_⟩ | ⟨g,cap,cur,rfl,_,hh,_⟩
 · exact .inl rfl
 · refine .inr ?_;rcases h2.2 with ⟨rfl,_⟩ | ⟨g',cap',cur',rfl,_,hh',_⟩
   · simp [Value.ownBlock]
   · intro e;have:g=g':=by simpa [Value.ownBlock] using e
     subst this;rw [hh] at hh';injection hh' with hh'
     injection hh' with _ ht
     exact hne ht
def RW (w:World) (rv:Value) (R:List (List Ent)) (cur:List Ent) (wr:World):Prop :=
 ∃ (g cap B:Nat) (vs:List Value) (v:Value),rv=.slice (some ⟨g,0,none⟩) (vs.length+1) cap∧ownsR wr (w.heap.size+1) rv (vs++[v])∧areD wr B vs R∧ownsE wr B v cur∧w.heap.size+1≤B∧B≤wr.heap.size
theorem RW.below {w wr w':World} {rv:Value} {R:List (List Ent)} {cur:List Ent} (h:RW w rv R cur wr) (hb:Below wr.heap.size wr w'):RW w rv R cur w':=by
 obtain ⟨g,cap,B,vs,v,h1,h2,h3,h4,h5,h6⟩:=h;exact ⟨g,cap,B,vs,v,h1,h2.below hb,areD_kept (grown_below hb) (Nat.le_refl _) (fun u r _ _=>by cases hu:u.ownBlock with
   | none=>exact .inl rfl
   | some k=>exact .inr (by simp)) h3,h4.below hb,h5,Nat.le_trans h6 hb.size⟩
theorem RW.grow {w w2 w3:World} {g cap B g2 cap2 m:Nat} {vs:List Value} {v:Value} {R:List (List Ent)} {cur cur2:List Ent}
   (ho:ownsR w2 (w.heap.size+1) (.slice (some ⟨g,0,none⟩) (vs.length+1) cap) (vs++[v])) (ha:areD w2 B vs R) (he:ownsE w2 B v cur) (hB1:w.heap.size+1≤B) (hB2:B≤w2.heap.size)
   (ho3:ownsE w3 B (.slice (some ⟨g2,0,none⟩) m cap2) cur2) (hg3:w2.grownBy w3 v.ownBlock) (hr:v.ownBlock=some g2∨g2=w2.heap.size) :
   RW w (.slice (some ⟨g,0,none⟩) (vs.length+1) cap) R cur2 (w3.setCell ⟨g,vs.length,none⟩ (.slice (some ⟨g2,0,none⟩) m cap2))∧w2.grownBy w3 v.ownBlock∧B≤g2:=by
 have hog:=ho.lt g rfl;have hap:v.ownBlock≠some g:=fun e=>by
   rcases own_apartV he ho (show 80≠22 by decide) with h | h
   · rw [h] at e;cases e
   · exact h e
 have ho4:ownsR w3 (w.heap.size+1) (.slice (some ⟨g,0,none⟩) (vs.length+1) cap) (vs++[v]):=World.ownsRow.kept ho hg3 (.inr (fun e=>hap e.symm));obtain ⟨ho5,hg5⟩:=ho4.stored rfl (.slice (some ⟨g2,0,none⟩) m cap2);have hne:g2≠g:=by
   rcases hr with hr | hr
   · intro e;rw [e] at hr;exact hap hr
   · omega
 have ha3:areD w3 B vs R:=areD_kept hg3 (Nat.le_refl _) (fun u r _ hu=>by
   cases huo:u.ownBlock with
   | none=>exact .inl rfl
   | some k =>
     refine .inr (fun e=>?_);have h1:=hu k huo;have h2:=(he.lt k e.symm).1;omega) ha
 refine ⟨⟨g,cap,B,vs,_,rfl,ho5,areD_kept hg5 (Nat.le_refl _) (fun u r hu _=>?_) ha3,World.ownsRow.kept ho3 hg5 (.inr (by simp [Value.ownBlock];exact hne)),hB1,Nat.le_trans hB2 (Nat.le_trans hg3.size hg5.size)⟩,hg3,(ho3.lt g2 rfl).1⟩;rcases own_apartV hu ho4 (show 80≠22 by decide) with h | h
 · exact .inl h
 · exact .inr h
theorem RW.cut {w wr w2 w3:World} {g cap B g2 cap2:Nat} {vs:List Value} {v:Value} {R:List (List Ent)} {cur:List Ent}
   (ho:ownsR wr (w.heap.size+1) (.slice (some ⟨g,0,none⟩) (vs.length+1) cap) (vs++[v])) (ha:areD wr B vs R) (he:ownsE wr B v cur) (hB1:w.heap.size+1≤B) (hB2:B≤wr.heap.size)
   (h2:Below wr.heap.size wr w2) (ho3:ownsR w3 (w.heap.size+1) (.slice (some ⟨g2,0,none⟩) (vs.length+1+1) cap2) ((vs++[v])++[.slice none 0 0])) (hg3:w2.grownBy w3 (some g)) :
   RW w (.slice (some ⟨g2,0,none⟩) ((vs++[v]).length+1) cap2) (R++[cur]) [] w3:=by
 have he0:ownsE wr 0 v cur:=he.mono (Nat.zero_le _);have ha1:areD wr wr.heap.size (vs++[v]) (R++[cur]):=areD_snoc he0 (fun k hk=>(he.lt k hk).2) (areD_kept (grown_below (Below.refl _ wr)) hB2 (fun u r _ _=>by cases hu:u.ownBlock with
   | none=>exact .inl rfl
   | some k=>exact .inr (by simp)) ha)
 have ho2:ownsR w2 (w.heap.size+1) (.slice (some ⟨g,0,none⟩) (vs.length+1) cap) (vs++[v]):=ho.below h2;have ha2:areD w2 wr.heap.size (vs++[v]) (R++[cur]):=areD_kept (grown_below h2) (Nat.le_refl _) (fun u r _ _=>by cases hu:u.ownBlock with
   | none=>exact .inl rfl
   | some k=>exact .inr (by simp)) ha1
 refine ⟨g2,cap2,wr.heap.size,vs++[v],.slice none 0 0,rfl,?_,areD_kept hg3 (Nat.le_refl _) (fun u r hu _=>?_) ha2,ownsE_nil _ _,by omega,Nat.le_trans h2.size hg3.size⟩
 · have e:(vs++[v]).length+1=vs.length+1+1:=by simp
   rw [e];exact ho3
 · rcases own_apartV hu ho2 (show 80≠22 by decide) with h | h
   · exact .inl h
   · exact .inr h
end Go.Proofs.YtgfinhehgfbdgaaGreatDoor
namespace Go.Proofs.YtgfinhehgfbdgaaGreatDoor
open Go.RowKit
theorem place_hit {h:List Ent} {r:Int} {k:Nat} {e:Ent} (hk:h[k]? = some e) (hle:k≤placeF h r) (he:e.rep=r):placeF h r=k:=by
 obtain ⟨hl,hx⟩:=List.getElem?_eq_some_iff.1 hk;refine Nat.le_antisymm (Nat.not_lt.1 fun hlt=>?_) hle;have h2 : ¬ (decide ((h[k]'hl).rep = r) = true) := by simpa using List.not_of_lt_findIdx hlt
 exact h2 (by rw [hx];simpa using he)
theorem place_miss {h:List Ent} {r:Int} {k:Nat} {e:Ent} (hk:h[k]? = some e) (hle:k≤placeF h r) (he:e.rep≠r):k+1≤placeF h r:=by
 obtain ⟨hl,hx⟩:=List.getElem?_eq_some_iff.1 hk;refine Nat.lt_of_le_of_ne hle fun heq=>he ?_
 have hlt:h.findIdx (fun e=>decide (e.rep=r))<h.length:=by show placeF h r<_;omega
 have h2:=List.findIdx_getElem (w:=hlt);have h3 : h[h.findIdx (fun e => decide (e.rep = r))]'hlt = h[k]'hl := by congr 1; exact heq.symm
 rw [h3,hx] at h2
 simpa using h2
theorem place_has {h:List Ent} {r:Int} (hlt:placeF h r<h.length):∃ e,h[placeF h r]? = some e∧e.rep=r:=by
 have h2:=List.findIdx_getElem (p:=fun e:Ent=>decide (e.rep=r)) (w:=hlt);exact ⟨_, List.getElem?_eq_getElem hlt, by show (h[h.findIdx (fun e => decide (e.rep = r))]'hlt).rep = r; simpa using h2⟩
set_option maxRecDepth 100000 in
theorem place1_any (x t r:Int) (B:Nat) (w:World) (c:Bool) (hB:B<w.heap.size) (h0:w.cell? ⟨B,0,none⟩=some (.int .i64 r)) (hc:decide (x=r)=c) :
   Calls Tryz.prog 170 #[.agg #[.int .i64 x,.int .i64 t],.pointer (some ⟨B,0,none⟩)] w fun e w'=>e=.returned (.bool c)∧Below w.heap.size w w':=by
 have hcc:(x == r)=c:=by rw [←hc];rfl
 have h1:(w.alloc (.cells #[.int .i64 x,.int .i64 t] 80)).cell? ⟨B,0,none⟩=some (.int .i64 r):=(World.cell?_alloc_lt _ _ _ hB).trans h0;go_enter Tryz.func170,Tryz.ntmps170
 go_wp2;go_ret;exact ⟨by first | rfl | (rw [hcc]),(Below.refl _ _).alloc (Nat.le_refl _) _⟩
set_option maxRecDepth 100000 in
set_option maxHeartbeats 2000000 in
theorem idxe_any (v:Value) (h:List Ent) (r:Int) (p B:Nat) (w:World) (hv:IsEnts w v h) (hl:h.length≤1000000) (hB:B<w.heap.size) (h0:w.cell? ⟨B,0,none⟩=some (.int .i64 r)) (hp:placeF h r=p) (hpl:p<h.length) :
   Calls Tryz.prog 169 #[v,.func (.func 170) #[] #[.pointer (some ⟨B,0,none⟩)]] w fun e w'=>e=.returned (.int .i64 (p:Int))∧Below w.heap.size w w':=by
 obtain ⟨a1,c1,rfl,f1⟩:=hv.form;have F1:=Lib.hid f1;obtain ⟨n,hn⟩:∃ n,n=h.length:=⟨_,rfl⟩;rw [←hn] at hl hpl ⊢;have HN:=Lib.hid hn;have HP:=Lib.hid hp;clear f1 hn hv hp;go_enter Tryz.func169,Tryz.ntmps169
 go_wp2
 go_loopw [8] (fun i wr=>∃ k:Nat,k≤p∧i=.int .i64 k∧Below w.heap.size w wr) (fun i _=>n-(intOf i).toNat)
 case atStart=>exact ⟨0,Nat.zero_le _,rfl,Below.refl _ _⟩
 case round =>
   obtain ⟨k,hk,rfl,hbel⟩:=hrel;have HB:=Lib.hid hbel;clear hbel;obtain ⟨x, hx⟩ : ∃ x, h[k]? = some x := ⟨h[k]'(by have := HN.out; omega), List.getElem?_eq_getElem _⟩;obtain ⟨b1,o1,rfl,hb1,p0,p1⟩:=F1.out k x hx;have hlt:k<n:=by omega
   have q0:=(HB.out.cell (p:=⟨b1,o1+k * 2,none⟩) hb1).trans p0;have q1:=(HB.out.cell (p:=⟨b1,o1+k * 2+1,none⟩) hb1).trans p1;have HC:Hid (wr.cell? ⟨B,0,none⟩=some (.int .i64 r)):=Lib.hid ((HB.out.cell (p:=⟨B,0,none⟩) hB).trans h0);have HBW:Hid (B<wr.heap.size):=Lib.hid (Nat.lt_of_lt_of_le hB HB.out.size);obtain ⟨c,hc⟩:∃ c,decide (x.rep=r)=c:=⟨_,rfl⟩;have HCC:=Lib.hid hc;have HX:=Lib.hid hx;obtain ⟨X,T⟩:=x;dsimp only at q0 q1 HCC
   clear p0 p1 hx hc;go_wp2_with fail
   refine (place1_any X T r B wr c HBW.out HC.out HCC.out).mono ?_;rintro rr w1 ⟨rfl,hb1⟩;have HB1:Hid (Below w.heap.size w w1):=HB.out.trans (hb1.mono HB.out.size);clear hb1 q0 q1;cases c with
   | true =>
     have hpk:=place_hit HX.out (by rw [HP.out];exact hk) (of_decide_eq_true HCC.out);rw [HP.out] at hpk;have HPK:=Lib.hid hpk;clear hpk;go_wp2;go_ret;exact ⟨by rw [HPK.out];rfl,HB1.out⟩
   | false =>
     have hpk:=place_miss HX.out (by rw [HP.out];exact hk) (of_decide_eq_false HCC.out);rw [HP.out] at hpk;go_wp2;go_roundw
     case rel=>exact ⟨k+1,hpk,by go_num,HB1.out⟩
     case measure=>simp [intOf];omega
set_option maxRecDepth 100000 in
theorem bplace_any (v:Value) (h:List Ent) (r:Int) (p:Nat) (w:World) (hv:IsEnts w v h) (hl:h.length≤1000000) (hp:placeF h r=p) (hpl:p<h.length) :
   Calls Tryz.prog 117 #[v,.int .i64 r] w fun e w'=>e=.returned (.int .i64 (p:Int))∧Below w.heap.size w w':=by
 have hmf:∀ (fn:Fn) (first cap:Array Value) (w:World),(Instr.makeFunc fn first cap).run Tryz.prog w=.ok (.func fn first cap) w:=fun _ _ _ _=>rfl
 have HV:=Lib.hid (hv.below ((Below.refl _ _).alloc (Nat.le_refl _) (.cells #[.int .i64 r] 3)));clear hv;go_enter Tryz.func117,Tryz.ntmps117
 go_wp2_with fail
 refine (idxe_any v h r p w.heap.size _ HV.out hl (by simp) (by simp) hp hpl).mono ?_;rintro rr w1 ⟨rfl,hb1⟩;have HB1:Hid (Below w.heap.size w w1):=Lib.hid (((Below.refl _ _).alloc (Nat.le_refl _) _).trans (hb1.mono (by simp)));clear hb1;go_wp2;go_ret;exact ⟨rfl,HB1.out⟩
end Go.Proofs.YtgfinhehgfbdgaaGreatDoor
namespace Go.Proofs.YtgfinhehgfbdgaaGreatDoor
open Go.RowKit
def EntriesIs (S:Nat) (s:ByteArray) (w:World) (e:Ending) (w':World):Prop :=
 w.grownBy w' (some S)∧((∃ v n l,vreadF s.data.toList=(0,n,l)∧e=.returned v∧ownsE w' w.heap.size v l∧Sc w' S s n) ∨
   ∃ (x:Nat) (pl:Int),vreadF s.data.toList=(x,0,[])∧x≠0∧e=.panicked [{ v:=.iface 190 (.agg #[.int .i64 (x:Int),.int .i64 pl]),recovered:=false }])
theorem grown_ne {w w':World} {base S:Nat} {v:Value} {l:List Ent} (ho:ownsE w base v l) (hS:S<base) (hg:w.grownBy w' (some S)):ownsE w' base v l :=
 World.ownsRow.kept ho hg (by
   cases hv:v.ownBlock with
   | none=>exact .inl rfl
   | some k=>exact .inr (fun e=>by have:=(ho.lt k hv).1;cases e;omega))
theorem grown_b {w w':World} (h:Below w.heap.size w w'):w.grownBy w' none:=⟨h.os,h.tape,h.output,h.size,fun k hk _=>h.block k hk⟩
set_option maxRecDepth 100000 in
set_option maxHeartbeats 8000000 in
theorem entries_any (S:Nat) (s:ByteArray) (w:World) (h:Sc w S s 0) (hs:s.size≤1000000) :
   Calls Tryz.prog 143 #[.pointer (some ⟨S,0,none⟩)] w (EntriesIs S s w):=by
 obtain ⟨_,c1,_,hS⟩:=h.cells;have H:=Lib.hid h;have c1':w.cell? ⟨S,1,none⟩=some (.int .i64 0):=c1;have HLL:Hid (s.data.toList.length=s.size):=Lib.hid (show s.data.toList.length=s.size from rfl);clear h c1;have hz:s.data.toList.drop 0=s.data.toList:=List.drop_zero;rcases intL_cases s.data.toList 16 with ⟨x,hi,hx,_⟩ | ⟨R0,j0,hi,hR0,_,hj0,hjl,_⟩
 · have HI:=Lib.hid hi;have HX:=Lib.hid hx;clear hi hx;go_enter Tryz.func143,Tryz.ntmps143
   go_wp2_with fail
   refine (next_bad S s 0 x 16 _ H.out hs (by omega) (by decide) (by decide) (by rw [hz];exact HI.out) HX.out).mono ?_;rintro r w1 ⟨rfl,hg1⟩;exact ⟨rfl,hg1,.inr ⟨x,_,vread_few HI.out HX.out,HX.out,rfl⟩⟩
 · have HI:=Lib.hid hi;have hR16:R0≤16:=by omega
   rw [HLL.out] at hjl;clear hi hR0;go_enter Tryz.func143,Tryz.ntmps143
   go_wp2_with fail
   refine (next_ok S s 0 R0 j0 16 _ H.out hs (by omega) (by decide) (by decide) (by rw [hz];exact HI.out) hj0).mono ?_;rintro r w1 ⟨rfl,hsc1,hg1⟩;rw [Nat.zero_add] at hsc1;have HSC1:=Lib.hid hsc1;have HG1:=Lib.hid hg1;clear hsc1 hg1 hz;go_wp2
   go_loopw [4,5,6] (fun ov rv iv wr=>∃ (R a:Nat) (rep least:Int) (acc:List Ent),iv=.int .i64 R∧rv=.int .i64 rep∧R≤16∧a≤s.size∧((rep=-1∧least=0)∨(0≤rep∧least=rep+2))∧rep+300 * R≤5000∧acc.length+20 * R≤400∧rdA R0 (s.data.toList.drop j0) j0 0 []=rdA R (s.data.toList.drop a) a least acc∧ownsE wr w.heap.size ov acc∧Sc wr S s a∧w.grownBy wr (some S)) (fun _ _ iv _=>(intOf iv).toNat)
   case atStart=>exact ⟨R0,j0,-1,0,[],rfl,rfl,hR16,hjl,.inl ⟨rfl,rfl⟩,by omega,by simp;omega,rfl,ownsE_nil _ _,HSC1.out,HG1.out⟩
   case round =>
     obtain ⟨R,a,rep,least,acc,rfl,rfl,hR,ha,hrl,hb,hal,heq,hown,hsc,hgr⟩:=hrel;have HEQ:=Lib.hid heq;have HOW:=Lib.hid hown;have HSC:=Lib.hid hsc;have HGR:=Lib.hid hgr;have HAL:=Lib.hid hal;obtain ⟨wo,rfl⟩:∃ wo,wo=wr:=⟨_,rfl⟩;clear heq hown hsc hgr hal;by_cases hR0:0<R
     · obtain ⟨R',hR'⟩:∃ R',R=R'+1:=⟨R-1,by omega⟩;have HR':=Lib.hid hR';have hRr:(R:Int)-1=(R':Int):=by omega
       have hRw:IntKind.i64.wrap (R':Int)=(R':Int):=IntWalk.i64_in _ (by omega);clear hR';rcases intL_cases (s.data.toList.drop a) 200 with ⟨x,hi,hx,_⟩ | ⟨g,j,hi,hg2,_,hj,hjl2,_⟩
       · have HV:Hid (vreadF s.data.toList=(x,0,[])):=Lib.hid (show vreadF s.data.toList=(x,0,[]) from vread_bad HI.out (by rw [HEQ.out,HR'.out];exact rdA_bad (getR_gap hi hx)));have HI2:=Lib.hid hi;have HX:=Lib.hid hx;clear hi hx;go_wp2_with fail
         refine (next_bad S s a x 200 _ HSC.out hs ha (by decide) (by decide) HI2.out HX.out).mono ?_;rintro r w2 ⟨rfl,hg2⟩;exact ⟨rfl,grown_on HGR.out hg2 (fun k hk=>.inl (Option.some.inj hk).symm),.inr ⟨x,_,HV.out,HX.out,rfl⟩⟩
       · rw [List.length_drop,HLL.out] at hjl2;have HI2:=Lib.hid hi;have hdd:(s.data.toList.drop a).drop j=s.data.toList.drop (a+j):=by rw [List.drop_drop]
         obtain ⟨rp1,hrp1⟩:∃ rp1:Int,rp1=least+g-1:=⟨_,rfl⟩;have HRP:=Lib.hid hrp1;rcases intL_cases (s.data.toList.drop (a+j)) 16 with ⟨x,hi2,hx,_⟩ | ⟨c,i,hi2,hc2,_,hi10,hil,_⟩
         · have HV:Hid (vreadF s.data.toList=(x,0,[])):=Lib.hid (show vreadF s.data.toList=(x,0,[]) from vread_bad HI.out (by rw [HEQ.out,HR'.out];exact rdA_bad (getR_many hi (by rw [hdd];exact hi2) hx)));have HI3:=Lib.hid hi2;have HX:=Lib.hid hx;clear hi2 hx hi hdd;have hrpw:IntKind.i64.wrap rp1=rp1:=IntWalk.i64_in _ (by omega);have hgw:IntKind.i64.wrap ((g:Int)+1)=(g:Int)+1:=IntWalk.i64_in _ (by omega);rcases hrl with ⟨rfl,hls⟩ | ⟨hr0,hls⟩
           · have e1:(-1:Int)+(g:Int)=rp1:=by omega
             have hl0:0≤least∧least≤5002:=by omega
             have hl1:least≤-1+2:=by omega
             clear hrp1 hls;go_wp2_with fail
             refine (next_ok S s a g j 200 _ HSC.out hs ha (by decide) (by decide) HI2.out hj).mono ?_;rintro r w2 ⟨rfl,hsc2,hg3⟩;have HSC2:=Lib.hid hsc2;have HG2:=Lib.hid (grown_on HGR.out hg3 (fun k hk=>.inl (Option.some.inj hk).symm));clear hsc2 hg3;go_wp2_with fail
             refine (next_bad S s (a+j) x 16 _ HSC2.out hs (by omega) (by decide) (by decide) HI3.out HX.out).mono ?_;rintro r w3 ⟨rfl,hg4⟩;exact ⟨rfl,grown_on HG2.out hg4 (fun k hk=>.inl (Option.some.inj hk).symm),.inr ⟨x,_,HV.out,HX.out,rfl⟩⟩
           · have e1:rep+((g:Int)+1)=rp1:=by omega
             have hl0:0≤least∧least≤5002:=by omega
             have hl1:least≤rep+2:=by omega
             clear hrp1 hls;go_wp2_with fail
             refine (next_ok S s a g j 200 _ HSC.out hs ha (by decide) (by decide) HI2.out hj).mono ?_;rintro r w2 ⟨rfl,hsc2,hg3⟩;have HSC2:=Lib.hid hsc2;have HG2:=Lib.hid (grown_on HGR.out hg3 (fun k hk=>.inl (Option.some.inj hk).symm));clear hsc2 hg3;go_wp2_with fail
             refine (next_bad S s (a+j) x 16 _ HSC2.out hs (by omega) (by decide) (by decide) HI3.out HX.out).mono ?_;rintro r w3 ⟨rfl,hg4⟩;exact ⟨rfl,grown_on HG2.out hg4 (fun k hk=>.inl (Option.some.inj hk).symm),.inr ⟨x,_,HV.out,HX.out,rfl⟩⟩
         · rw [List.length_drop,HLL.out] at hil;have HGET:Hid (getR (s.data.toList.drop a) 0 least []=tmA (c+1) (s.data.toList.drop (a+j+i)) (0+j+i) (least+g) []):=Lib.hid (show getR (s.data.toList.drop a) 0 least []=tmA (c+1) (s.data.toList.drop (a+j+i)) (0+j+i) (least+g) [] by
             rw [getR_ok hi (by rw [hdd];exact hi2),hdd,List.drop_drop])
           have HI3:=Lib.hid hi2;clear hi2 hi hdd;have hrpw:IntKind.i64.wrap rp1=rp1:=IntWalk.i64_in _ (by omega);have hgw:IntKind.i64.wrap ((g:Int)+1)=(g:Int)+1:=IntWalk.i64_in _ (by omega);rcases hrl with ⟨rfl,hls⟩ | ⟨hr0,hls⟩
           · have e1:(-1:Int)+(g:Int)=rp1:=by omega
             have hl0:0≤least∧least≤5002:=by omega
             have hl1:least≤-1+2:=by omega
             clear hrp1 hls;go_wp2_with fail
             refine (next_ok S s a g j 200 _ HSC.out hs ha (by decide) (by decide) HI2.out hj).mono ?_;rintro r w2 ⟨rfl,hsc2,hg3⟩;have HSC2:=Lib.hid hsc2;have HG2:=Lib.hid (grown_on HGR.out hg3 (fun k hk=>.inl (Option.some.inj hk).symm));have HOW2:=Lib.hid (grown_ne HOW.out hS hg3);clear hsc2 hg3;go_wp2_with fail
             refine (next_ok S s (a+j) c i 16 _ HSC2.out hs (by omega) (by decide) (by decide) HI3.out hi10).mono ?_;rintro r w3 ⟨rfl,hsc3,hg4⟩;have HSC3:=Lib.hid hsc3;have HG3:=Lib.hid (grown_on HG2.out hg4 (fun k hk=>.inl (Option.some.inj hk).symm));have HOW3:=Lib.hid (grown_ne HOW2.out hS hg4);clear hsc3 hg4;go_wp2
             go_loopw [4,5,8] (fun ov rv kv wr=>∃ (T a2:Nat) (K rep2:Int) (racc:List Ent),kv=.int .i64 K∧K=(T:Int)-1∧rv=.int .i64 rep2∧T≤c+1∧a2≤s.size∧a≤a2∧getR (s.data.toList.drop a) 0 least []=tmA T (s.data.toList.drop a2) (a2-a) (rep2+1) racc∧(T≤c→(racc.getLastD ⟨0,0⟩).rep=rep2)∧rep2+T=least+g+c∧racc.length+T=c+1∧ownsE wr w.heap.size ov (acc++racc)∧Sc wr S s a2∧w.grownBy wr (some S)) (fun _ _ kv _=>(intOf kv+1).toNat)
             case atStart =>
               refine ⟨c+1,a+j+i,(c:Int),rp1,[],rfl,by omega,rfl,by omega,by omega,by omega,?_,by omega,by have:=HRP.out;omega,by simp,by rw [List.append_nil];exact HOW3.out,HSC3.out,HG3.out⟩;rw [HGET.out,show a+j+i-a=0+j+i by omega,show rp1+1=least+g by have:=HRP.out;omega]
             case round =>
               obtain ⟨T,a2,K,rep2,racc,rfl,hK,rfl,hT,ha2,haa,hgt,hlst,hrt,hrc,hown,hsc,hgr⟩:=hrel;have HGT:=Lib.hid hgt;have HLST:=Lib.hid hlst;have HOW4:=Lib.hid hown;have HSC4:=Lib.hid hsc;have HGR4:=Lib.hid hgr;have HK:=Lib.hid hK;have HRT:=Lib.hid hrt;have HRC:=Lib.hid hrc;have HACC:=HAL.out;have hkb : -1≤K∧K≤16:=by omega
               have hrb : -1≤rep2∧rep2≤6000:=by omega
               clear hgt hlst hown hsc hgr;by_cases hT0:0<T
               · obtain ⟨T',hT'⟩:∃ T',T=T'+1:=⟨T-1,by omega⟩;have HT':=Lib.hid hT';have hK0:0≤K:=by omega
                 have hKw:IntKind.i64.wrap (K-1)=K-1:=IntWalk.i64_in _ (by omega);have hRw2:IntKind.i64.wrap (rep2+1)=rep2+1:=IntWalk.i64_in _ (by omega);rcases intL_cases (s.data.toList.drop a2) 1099511627776 with ⟨x,hi3,hx,_⟩ | ⟨n,m,hi3,hn3,_,hm10,hml,_⟩
                 · have HV:Hid (vreadF s.data.toList=(x,0,[])):=Lib.hid (show vreadF s.data.toList=(x,0,[]) from vread_bad HI.out (by rw [HEQ.out,HR'.out];exact rdA_bad (by rw [HGT.out,hT'];exact tmA_bad hi3 hx)));have HI4:=Lib.hid hi3;have HX:=Lib.hid hx;clear hi3 hx hK hT' hrt hrc;go_wp2_with fail
                   refine (next_bad S s a2 x 1099511627776 _ HSC4.out hs ha2 (by decide) (by decide) HI4.out HX.out).mono ?_;rintro r w5 ⟨rfl,hg5⟩;exact ⟨rfl,grown_on HGR4.out hg5 (fun k hk=>.inl (Option.some.inj hk).symm),.inr ⟨x,_,HV.out,HX.out,rfl⟩⟩
                 · rw [List.length_drop,HLL.out] at hml;have HI4:=Lib.hid hi3;have HGT2:Hid (getR (s.data.toList.drop a) 0 least []=tmA T' (s.data.toList.drop (a2+m)) (a2+m-a) (rep2+1+1) (racc++[⟨rep2+1,n⟩])):=Lib.hid (show getR (s.data.toList.drop a) 0 least []=tmA T' (s.data.toList.drop (a2+m)) (a2+m-a) (rep2+1+1) (racc++[⟨rep2+1,n⟩]) by
                     rw [HGT.out,hT',tmA_ok hi3,List.drop_drop,show a2-a+m=a2+m-a by omega])
                   have hlen:(acc++racc).length+1≤1000000:=by rw [List.length_append];omega
                   clear hi3 hK hT' hrt hrc;go_wp2_with fail
                   refine (next_ok S s a2 n m 1099511627776 _ HSC4.out hs ha2 (by decide) (by decide) HI4.out hm10).mono ?_;rintro r w5 ⟨rfl,hsc5,hg5⟩;have HSC5:=Lib.hid hsc5;have HG5:=Lib.hid (grown_on HGR4.out hg5 (fun k hk=>.inl (Option.some.inj hk).symm));have HOW5:=Lib.hid (grown_ne HOW4.out hS hg5);have hz5:w.heap.size≤w5.heap.size:=HG5.out.size;clear hsc5 hg5;go_wp2_with (at_builtin;refine wpList_append_ent rfl _ _ rfl w.heap.size _ (acc++racc) rfl (HOW5.out.alloc _) w5.heap.size 1 rfl ⟨rep2+1,n⟩ ?c1 ?c2 ?c3 ?_)
                   case c1=>exact entBlk_new _ _ _
                   case c2=>exact hlen
                   case c3=>simp;omega
                   intro gg cap w6 ho6 hg6;have hne6:=(HOW5.out.alloc (.cells #[.int .i64 (rep2+1),.int .i64 n] 80)).lt;have HOW6:Hid (ownsE w6 w.heap.size (.slice (some ⟨gg,0,none⟩) (acc.length+racc.length+1) cap) (acc++(racc++[⟨rep2+1,n⟩]))):=Lib.hid (by simpa using ho6);have HG6:=Lib.hid (grown_on (grown_on HG5.out (World.grownBy_alloc w5 (.cells #[.int .i64 (rep2+1),.int .i64 n] 80) none) (fun k hk=>by cases hk)) hg6 (fun k hk=>.inr (hne6 k hk).1));have HSC6:Hid (Sc w6 S s (a2+m)):=Lib.hid (show Sc w6 S s (a2+m) from (HSC5.out.kept (World.grownBy_alloc w5 _ none) (by simp)).kept hg6 (fun e=>by have:=(hne6 S e).1;omega));clear ho6 hg6 hne6 hlen;go_wp2;go_roundw
                   case rel =>
                     have hT':=HT'.out;have hK:=HK.out;have hrt:=HRT.out;have hrc:=HRC.out;exact ⟨T',a2+m,K-1,rep2+1,racc++[⟨rep2+1,n⟩],rfl,by omega,rfl,by omega,by omega,by omega,HGT2.out,fun _=>by rw [getLastD_snoc],by omega,by rw [List.length_append];simp;omega,HOW6.out,HSC6.out,HG6.out⟩
                   case measure=>simp [intOf];omega
               · have hT00:T=0:=by omega
                 have hK1:K<0:=by omega
                 have HE2:Hid (rdA R0 (s.data.toList.drop j0) j0 0 []=rdA R' (s.data.toList.drop a2) a2 (rep2+2) (acc++racc)):=Lib.hid (show rdA R0 (s.data.toList.drop j0) j0 0 []=rdA R' (s.data.toList.drop a2) a2 (rep2+2) (acc++racc) by
                   have hg:=HGT.out;rw [hT00] at hg;have hg3:getR (s.data.toList.drop a) 0 least []=.inr (racc,a2-a):=hg;rw [HEQ.out,HR'.out,rdA_ok hg3,List.drop_drop,show a+(a2-a)=a2 by omega,HLST.out (by omega)])
                 have hge:0≤rep2:=by omega
                 have hbb2:rep2+300 * R'≤5000:=by have:=HR'.out;omega
                 have hal2:(acc++racc).length+20 * R'≤400:=by have:=HR'.out;rw [List.length_append];omega
                 have hRR:R'<R:=by have:=HR'.out;omega
                 have HFIN:Hid (0≤rep2∧rep2+300 * R'≤5000∧(acc++racc).length+20 * R'≤400∧R'<R):=Lib.hid ⟨hge,hbb2,hal2,hRR⟩;clear hT00 hK hrt hrc hbb2 hal2;go_wp2;go_roundw
                 case rel=>exact ⟨R',a2,rep2,rep2+2,acc++racc,rfl,rfl,by have:=HFIN.out;omega,ha2,.inr ⟨hge,rfl⟩,HFIN.out.2.1,HFIN.out.2.2.1,HE2.out,HOW4.out,HSC4.out,HGR4.out⟩
                 case measure=>simp [intOf];have:=HFIN.out;omega
           · have e1:rep+((g:Int)+1)=rp1:=by omega
             have hl0:0≤least∧least≤5002:=by omega
             have hl1:least≤rep+2:=by omega
             clear hrp1 hls;go_wp2_with fail
             refine (next_ok S s a g j 200 _ HSC.out hs ha (by decide) (by decide) HI2.out hj).mono ?_;rintro r w2 ⟨rfl,hsc2,hg3⟩;have HSC2:=Lib.hid hsc2;have HG2:=Lib.hid (grown_on HGR.out hg3 (fun k hk=>.inl (Option.some.inj hk).symm));have HOW2:=Lib.hid (grown_ne HOW.out hS hg3);clear hsc2 hg3;go_wp2_with fail
             refine (next_ok S s (a+j) c i 16 _ HSC2.out hs (by omega) (by decide) (by decide) HI3.out hi10).mono ?_;rintro r w3 ⟨rfl,hsc3,hg4⟩;have HSC3:=Lib.hid hsc3;have HG3:=Lib.hid (grown_on HG2.out hg4 (fun k hk=>.inl (Option.some.inj hk).symm));have HOW3:=Lib.hid (grown_ne HOW2.out hS hg4);clear hsc3 hg4;go_wp2
             go_loopw [4,5,8] (fun ov rv kv wr=>∃ (T a2:Nat) (K rep2:Int) (racc:List Ent),kv=.int .i64 K∧K=(T:Int)-1∧rv=.int .i64 rep2∧T≤c+1∧a2≤s.size∧a≤a2∧getR (s.data.toList.drop a) 0 least []=tmA T (s.data.toList.drop a2) (a2-a) (rep2+1) racc∧(T≤c→(racc.getLastD ⟨0,0⟩).rep=rep2)∧rep2+T=least+g+c∧racc.length+T=c+1∧ownsE wr w.heap.size ov (acc++racc)∧Sc wr S s a2∧w.grownBy wr (some S)) (fun _ _ kv _=>(intOf kv+1).toNat)
             case atStart =>
               refine ⟨c+1,a+j+i,(c:Int),rp1,[],rfl,by omega,rfl,by omega,by omega,by omega,?_,by omega,by have:=HRP.out;omega,by simp,by rw [List.append_nil];exact HOW3.out,HSC3.out,HG3.out⟩;rw [HGET.out,show a+j+i-a=0+j+i by omega,show rp1+1=least+g by have:=HRP.out;omega]
             case round =>
               obtain ⟨T,a2,K,rep2,racc,rfl,hK,rfl,hT,ha2,haa,hgt,hlst,hrt,hrc,hown,hsc,hgr⟩:=hrel;have HGT:=Lib.hid hgt;have HLST:=Lib.hid hlst;have HOW4:=Lib.hid hown;have HSC4:=Lib.hid hsc;have HGR4:=Lib.hid hgr;have HK:=Lib.hid hK;have HRT:=Lib.hid hrt;have HRC:=Lib.hid hrc;have HACC:=HAL.out;have hkb : -1≤K∧K≤16:=by omega
               have hrb : -1≤rep2∧rep2≤6000:=by omega
               clear hgt hlst hown hsc hgr;by_cases hT0:0<T
               · obtain ⟨T',hT'⟩:∃ T',T=T'+1:=⟨T-1,by omega⟩;have HT':=Lib.hid hT';have hK0:0≤K:=by omega
                 have hKw:IntKind.i64.wrap (K-1)=K-1:=IntWalk.i64_in _ (by omega);have hRw2:IntKind.i64.wrap (rep2+1)=rep2+1:=IntWalk.i64_in _ (by omega);rcases intL_cases (s.data.toList.drop a2) 1099511627776 with ⟨x,hi3,hx,_⟩ | ⟨n,m,hi3,hn3,_,hm10,hml,_⟩
                 · have HV:Hid (vreadF s.data.toList=(x,0,[])):=Lib.hid (show vreadF s.data.toList=(x,0,[]) from vread_bad HI.out (by rw [HEQ.out,HR'.out];exact rdA_bad (by rw [HGT.out,hT'];exact tmA_bad hi3 hx)));have HI4:=Lib.hid hi3;have HX:=Lib.hid hx;clear hi3 hx hK hT' hrt hrc;go_wp2_with fail
                   refine (next_bad S s a2 x 1099511627776 _ HSC4.out hs ha2 (by decide) (by decide) HI4.out HX.out).mono ?_;rintro r w5 ⟨rfl,hg5⟩;exact ⟨rfl,grown_on HGR4.out hg5 (fun k hk=>.inl (Option.some.inj hk).symm),.inr ⟨x,_,HV.out,HX.out,rfl⟩⟩
                 · rw [List.length_drop,HLL.out] at hml;have HI4:=Lib.hid hi3;have HGT2:Hid (getR (s.data.toList.drop a) 0 least []=tmA T' (s.data.toList.drop (a2+m)) (a2+m-a) (rep2+1+1) (racc++[⟨rep2+1,n⟩])):=Lib.hid (show getR (s.data.toList.drop a) 0 least []=tmA T' (s.data.toList.drop (a2+m)) (a2+m-a) (rep2+1+1) (racc++[⟨rep2+1,n⟩]) by
                     rw [HGT.out,hT',tmA_ok hi3,List.drop_drop,show a2-a+m=a2+m-a by omega])
                   have hlen:(acc++racc).length+1≤1000000:=by rw [List.length_append];omega
                   clear hi3 hK hT' hrt hrc;go_wp2_with fail
                   refine (next_ok S s a2 n m 1099511627776 _ HSC4.out hs ha2 (by decide) (by decide) HI4.out hm10).mono ?_;rintro r w5 ⟨rfl,hsc5,hg5⟩;have HSC5:=Lib.hid hsc5;have HG5:=Lib.hid (grown_on HGR4.out hg5 (fun k hk=>.inl (Option.some.inj hk).symm));have HOW5:=Lib.hid (grown_ne HOW4.out hS hg5);have hz5:w.heap.size≤w5.heap.size:=HG5.out.size;clear hsc5 hg5;go_wp2_with (at_builtin;refine wpList_append_ent rfl _ _ rfl w.heap.size _ (acc++racc) rfl (HOW5.out.alloc _) w5.heap.size 1 rfl ⟨rep2+1,n⟩ ?c1 ?c2 ?c3 ?_)
                   case c1=>exact entBlk_new _ _ _
                   case c2=>exact hlen
                   case c3=>simp;omega
                   intro gg cap w6 ho6 hg6;have hne6:=(HOW5.out.alloc (.cells #[.int .i64 (rep2+1),.int .i64 n] 80)).lt;have HOW6:Hid (ownsE w6 w.heap.size (.slice (some ⟨gg,0,none⟩) (acc.length+racc.length+1) cap) (acc++(racc++[⟨rep2+1,n⟩]))):=Lib.hid (by simpa using ho6);have HG6:=Lib.hid (grown_on (grown_on HG5.out (World.grownBy_alloc w5 (.cells #[.int .i64 (rep2+1),.int .i64 n] 80) none) (fun k hk=>by cases hk)) hg6 (fun k hk=>.inr (hne6 k hk).1));have HSC6:Hid (Sc w6 S s (a2+m)):=Lib.hid (show Sc w6 S s (a2+m) from (HSC5.out.kept (World.grownBy_alloc w5 _ none) (by simp)).kept hg6 (fun e=>by have:=(hne6 S e).1;omega));clear ho6 hg6 hne6 hlen;go_wp2;go_roundw
                   case rel =>
                     have hT':=HT'.out;have hK:=HK.out;have hrt:=HRT.out;have hrc:=HRC.out;exact ⟨T',a2+m,K-1,rep2+1,racc++[⟨rep2+1,n⟩],rfl,by omega,rfl,by omega,by omega,by omega,HGT2.out,fun _=>by rw [getLastD_snoc],by omega,by rw [List.length_append];simp;omega,HOW6.out,HSC6.out,HG6.out⟩
                   case measure=>simp [intOf];omega
               · have hT00:T=0:=by omega
                 have hK1:K<0:=by omega
                 have HE2:Hid (rdA R0 (s.data.toList.drop j0) j0 0 []=rdA R' (s.data.toList.drop a2) a2 (rep2+2) (acc++racc)):=Lib.hid (show rdA R0 (s.data.toList.drop j0) j0 0 []=rdA R' (s.data.toList.drop a2) a2 (rep2+2) (acc++racc) by
                   have hg:=HGT.out;rw [hT00] at hg;have hg3:getR (s.data.toList.drop a) 0 least []=.inr (racc,a2-a):=hg;rw [HEQ.out,HR'.out,rdA_ok hg3,List.drop_drop,show a+(a2-a)=a2 by omega,HLST.out (by omega)])
                 have hge:0≤rep2:=by omega
                 have hbb2:rep2+300 * R'≤5000:=by have:=HR'.out;omega
                 have hal2:(acc++racc).length+20 * R'≤400:=by have:=HR'.out;rw [List.length_append];omega
                 have hRR:R'<R:=by have:=HR'.out;omega
                 have HFIN:Hid (0≤rep2∧rep2+300 * R'≤5000∧(acc++racc).length+20 * R'≤400∧R'<R):=Lib.hid ⟨hge,hbb2,hal2,hRR⟩;clear hT00 hK hrt hrc hbb2 hal2;go_wp2;go_roundw
                 case rel=>exact ⟨R',a2,rep2,rep2+2,acc++racc,rfl,rfl,by have:=HFIN.out;omega,ha2,.inr ⟨hge,rfl⟩,HFIN.out.2.1,HFIN.out.2.2.1,HE2.out,HOW4.out,HSC4.out,HGR4.out⟩
                 case measure=>simp [intOf];have:=HFIN.out;omega
     · have hR00:R=0:=by omega
       have hR01:¬ 0<(R:Int):=by omega
       have HEQ0:Hid (rdA R0 (s.data.toList.drop j0) j0 0 []=.inr (acc,a)):=Lib.hid (show rdA R0 (s.data.toList.drop j0) j0 0 []=.inr (acc,a) by rw [HEQ.out,hR00];rfl);obtain ⟨e,pl,hv⟩:∃ e pl,vrightF acc=(e,pl):=⟨_,_,rfl⟩;have HVR:=Lib.hid hv;have HACC:Hid (acc.length≤9223372036854775807):=Lib.hid (show acc.length≤9223372036854775807 by have:=HAL.out;omega);clear hR00 hv;go_wp2_with fail
       refine (rvright_as _ acc e pl _ HOW.out.is HACC.out HVR.out).mono ?_;rintro r w2 ⟨rfl,hb2⟩;have HB2:=Lib.hid hb2;clear hb2;go_wp2_with fail
       refine (is_any e pl _).mono ?_;rintro r w3 ⟨rfl,hb3⟩;have c0:w3.cell? ⟨w2.heap.size,0,none⟩=some (.int .i64 e):=(hb3.cell (by simp)).trans (by simp);have HG3:Hid (w.grownBy w3 (some S)):=Lib.hid (grown_on (grown_on (grown_on HGR.out (grown_b HB2.out) (fun k hk=>by cases hk)) (World.grownBy_alloc w2 _ none) (fun k hk=>by cases hk)) (grown_b hb3) (fun k hk=>by cases hk));have HSC3:Hid (Sc w3 S s a):=Lib.hid (((HSC.out.kept (grown_b HB2.out) (by simp)).kept (World.grownBy_alloc w2 _ none) (by simp)).kept (grown_b hb3) (by simp));have HOW3:=Lib.hid (((HOW.out.below HB2.out).alloc _).below hb3);clear hb3;by_cases he:e=0
       · have hbe:((e:Int) == 0)=true:=by simp;exact he
         have HV:Hid (vreadF s.data.toList=(0,a,acc)):=Lib.hid (vread_ok HI.out HEQ0.out (by rw [HVR.out];exact he));rw [hbe];clear hbe he;go_wp2;go_ret;exact ⟨HG3.out,.inl ⟨_,a,acc,HV.out,rfl,HOW3.out,HSC3.out⟩⟩
       · have hbe:((e:Int) == 0)=false:=by simp;exact he
         have HV:Hid (vreadF s.data.toList=(e,0,[])):=Lib.hid (show vreadF s.data.toList=(e,0,[]) by
           have:=vread_wrong HI.out HEQ0.out (by rw [HVR.out];exact he);rw [HVR.out] at this;exact this)
         have HE:=Lib.hid he;rw [hbe];clear hbe he;go_wp2_with fail
         refine (throw_any e 0 _).mono ?_;rintro r w' ⟨rfl,rfl⟩;exact ⟨rfl,HG3.out,.inr ⟨e,0,HV.out,HE.out,rfl⟩⟩
end Go.Proofs.YtgfinhehgfbdgaaGreatDoor
