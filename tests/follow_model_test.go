package tests

import (
	"strings"

	"loop.example/quincunx/impl"
)

// The functions of this file say what the document says of who follows, with nothing of the program but its types.

func historyMayBe(history int) bool {
	return history >= 1 && history <= most
}

// modelLeaderOk takes a base that is ok.
func modelLeaderOk(l impl.Leader) bool {
	return historyMayBe(l.History) && modelServerOk(l.Server)
}

func modelFollowerOk(f impl.Follower) bool {
	if f.History == 0 {
		return f.Text == "" && isNothing(f.Base)
	}
	b, size := fileByRecords(f.Text)
	return historyMayBe(f.History) && len(f.Text) <= fullFile && size == len(f.Text) && b.Now <= f.Base.Now && f.Base.Now <= lastTime && sameBase(notOver(b, f.Base.Now), f.Base)
}

// modelLeaderDo takes a leader that is ok.
func modelLeaderDo(l impl.Leader, client int, args []string) (impl.Leader, impl.Reply) {
	if client < 0 || client >= len(l.Server.Clients) || !isOrder(args) {
		return l, errorReply("server")
	}
	s, reply, _ := modelServerDo(l.Server, client, args)
	return impl.Leader{Server: s, History: l.History}, reply
}

// modelLeaderLess takes a leader that is ok.
func modelLeaderLess(l impl.Leader) (impl.Leader, bool) {
	s, shorter := modelLess(l.Server)
	if !shorter || l.History == most {
		return l, false
	}
	return impl.Leader{Server: s, History: l.History + 1}, true
}

func modelPackFor(l impl.Leader, f impl.Follower) impl.Pack {
	if !modelLeaderOk(l) || !modelFollowerOk(f) {
		return impl.Pack{}
	}
	p := impl.Pack{Full: true, History: l.History, Text: l.Server.File, Now: l.Server.Base.Now}
	if f.History == l.History && strings.HasPrefix(p.Text, f.Text) && f.Base.Now <= p.Now {
		p.Full, p.At, p.Text = false, len(f.Text), p.Text[len(f.Text):]
	}
	return p
}

func modelFollow(f impl.Follower, p impl.Pack) (impl.Follower, bool) {
	if !modelFollowerOk(f) {
		return impl.Follower{}, false
	}
	text := p.Text
	if !p.Full {
		if p.History != f.History || p.At != len(f.Text) || p.Now < f.Base.Now {
			return f, false
		}
		text = f.Text + p.Text
	}
	b, size := fileByRecords(text)
	if !historyMayBe(p.History) || p.Now < 0 || p.Now > lastTime || len(text) > fullFile || size < len(text) || b.Now > p.Now {
		return f, false
	}
	return impl.Follower{History: p.History, Text: text, Base: notOver(b, p.Now)}, true
}

func modelAsk(f impl.Follower, args []string) (impl.Reply, bool) {
	if !modelFollowerOk(f) || !isOrder(args) {
		return impl.Reply{}, false
	}
	if o, known := orderOf(args[0]); known && o.changes {
		return impl.Reply{}, false
	}
	_, reply := modelDo(f.Base, args)
	return reply, true
}

func modelLead(f impl.Follower, clients int) impl.Leader {
	if !modelFollowerOk(f) || f.History < 1 || f.History > most-1 || clients < 1 || clients > 3 {
		return impl.Leader{}
	}
	return impl.Leader{Server: impl.Server{Base: f.Base, File: f.Text, Clients: make([]impl.Client, clients)}, History: f.History + 1}
}
