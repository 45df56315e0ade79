package loop_test

import (
	"reflect"

	"flywheel/audit"
	"flywheel/batch"
	"flywheel/blend"
	"flywheel/bound"
	"flywheel/budget"
	"flywheel/calls"
	"flywheel/client"
	"flywheel/control"
	"flywheel/cut"
	"flywheel/decide"
	"flywheel/decided"
	"flywheel/desk"
	"flywheel/differ"
	"flywheel/engine"
	"flywheel/fifo"
	"flywheel/flat"
	"flywheel/fnv"
	"flywheel/ground"
	"flywheel/handle"
	"flywheel/history"
	"flywheel/ident"
	"flywheel/journal"
	"flywheel/line"
	"flywheel/loop"
	"flywheel/monitor"
	"flywheel/node"
	"flywheel/order"
	"flywheel/pack"
	"flywheel/picks"
	"flywheel/policy"
	"flywheel/rank"
	"flywheel/report"
	"flywheel/ring"
	"flywheel/route"
	"flywheel/rwlock"
	"flywheel/sat"
	"flywheel/sched"
	"flywheel/script"
	"flywheel/search"
	"flywheel/series"
	"flywheel/shape"
	"flywheel/steady"
	"flywheel/store"
	"flywheel/stripe"
	"flywheel/threads"
	"flywheel/trace"
	"flywheel/trend"
	"flywheel/trial"
	"flywheel/tune"
	"flywheel/watch"
	"flywheel/wide"
	"flywheel/window"
	"flywheel/worker"
	"flywheel/workq"
	"flywheel/zig"
)

// functions has the functions of all layers.
func functions() []any {
	return []any{
		audit.Rule, audit.Check, audit.Counts,
		batch.Fine, batch.Last, batch.Sort, batch.Parts,
		blend.Merge, blend.Start, blend.Thin, blend.Fill, blend.Gaps,
		bound.Stirs, bound.Most, bound.Finish, bound.Decisions,
		budget.Check, budget.Share, budget.Lacks, budget.Fit,
		calls.Cuts, calls.Line, calls.Home, calls.Ops, calls.Rising, calls.Check, calls.Steps,
		client.New,
		control.Want, control.Bound, control.Near, control.Raw, control.Low, control.High,
		cut.New, cut.Alike, cut.Differ,
		decide.Now, decide.Of, decide.Follow,
		decided.Apart, decided.Wrong, decided.Outside, decided.Stale, decided.Last,
		desk.New,
		differ.Parts, differ.Lines, differ.Same, differ.Fresh,
		engine.New, engine.Run,
		flat.New,
		fnv.Sum32, fnv.Sum64, fnv.Key, fnv.Fold,
		ground.New, ground.Key,
		handle.New,
		history.New, history.Highest, history.Changes, history.Reasons,
		ident.Check, ident.Pack, ident.Unpack, ident.Right, ident.Cmp, ident.Rising,
		journal.Put, journal.Get, journal.Read, journal.Replay, journal.Ids,
		line.Verb, line.Text, line.Parse, line.Bare, line.Advice, line.Reply,
		loop.Check, loop.Run, loop.Total, loop.Longest,
		node.Right, node.New,
		order.Apply, order.Replay, order.Told, order.Linear, order.Epochs, order.After,
		pack.Check, pack.Put, pack.Size, pack.Get,
		picks.Round, picks.Weave, picks.Counts, picks.Gap, picks.Text, picks.Parse,
		policy.Usual, policy.Check, policy.Has, policy.Text, policy.Parse,
		rank.Sorted, rank.Nth, rank.Share, rank.Top, rank.Steps,
		report.Event, report.Count, report.Sum, report.Text, report.Last,
		ring.New[int],
		route.Right, route.Bits, route.Of, route.Split, route.Heaviest,
		sat.Add, sat.Sub, sat.Mul, sat.Sum, sat.Clamp, sat.Floor, sat.Ceil, sat.Narrow,
		sched.First, sched.Next, sched.Open, sched.Run, sched.Watch,
		script.Check, script.Text, script.Parse,
		search.Of, search.Ahead, search.Is, search.Find,
		series.New, series.Of, series.Right,
		shape.Check, shape.Place, shape.At, shape.Sum, shape.Samples, shape.Text, shape.Parse,
		steady.Of, steady.Streak, steady.Settled, steady.Turns,
		store.New, store.Check,
		stripe.New, stripe.Sort,
		threads.Check, threads.Run,
		trace.Right, trace.Of, trace.Kind, trace.Points, trace.Replies, trace.Find, trace.Ahead,
		trend.Of, trend.Ahead, trend.With,
		trial.Judge, trial.Run, trial.Cmp,
		tune.With, tune.Ladder, tune.Best, tune.Cheapest,
		watch.Order, watch.Alone, watch.Queue, watch.Room, watch.Safe, watch.First,
		wide.Mul, wide.Add, wide.Cmp, wide.Div, wide.Small, wide.Scale, wide.Total, wide.Mean,
		window.Cut, window.Values, window.Of, window.From, window.At, window.Merge, window.Each,
		worker.New,
		zig.Zig, zig.Zag, zig.Put, zig.Get, zig.All,
	}
}

// receivers has the types of all layers whose methods are calls.
func receivers() []reflect.Type {
	return []reflect.Type{
		reflect.TypeFor[*client.Client](),
		reflect.TypeFor[*cut.Cut](),
		reflect.TypeFor[*desk.Desk](),
		reflect.TypeFor[*engine.Engine](),
		reflect.TypeFor[*fifo.Queue[int]](),
		reflect.TypeFor[*flat.Map](),
		reflect.TypeFor[*ground.World](),
		reflect.TypeFor[*handle.Table](),
		reflect.TypeFor[*history.History](),
		reflect.TypeFor[*journal.Log](),
		reflect.TypeFor[*monitor.Monitor](),
		reflect.TypeFor[*node.Node](),
		reflect.TypeFor[*ring.Ring[int]](),
		reflect.TypeFor[*rwlock.Lock](),
		reflect.TypeFor[*series.Series](),
		reflect.TypeFor[*store.Store](),
		reflect.TypeFor[*stripe.Stripe](),
		reflect.TypeFor[trend.Line](),
		reflect.TypeFor[*worker.Worker](),
		reflect.TypeFor[*workq.Queue](),
	}
}
